package flat_test

import (
	"math"
	mathbig "math/big"
	"slices"
	"strings"
	"testing"

	"glider/api"
	"glider/cells"
	"glider/flat"
	"glider/pattern"
)

// Cells may be from -2^far to below 2^far.
const far = 1328

// wide are the greatest limits.
var wide = api.Limits{Box: 1000, Nodes: 100000}

// whole is a number of math/big.
func whole(n int) *mathbig.Int { return mathbig.NewInt(int64(n)) }

// pow is 2^n, and d.
func pow(n, d int) *mathbig.Int {
	return new(mathbig.Int).Add(new(mathbig.Int).Lsh(whole(1), uint(n)), whole(d))
}

// minus is -n.
func minus(n *mathbig.Int) *mathbig.Int { return new(mathbig.Int).Neg(n) }

// plus is n, and d.
func plus(n *mathbig.Int, d int) *mathbig.Int { return new(mathbig.Int).Add(n, whole(d)) }

// bigOf is the one big number that may be and that n is.
func bigOf(n *mathbig.Int) api.Big {
	x := api.Big{Neg: n.Sign() < 0}
	for n = new(mathbig.Int).Abs(n); n.Sign() > 0; n.Rsh(n, 32) {
		x.Limbs = append(x.Limbs, uint32(n.Uint64()))
	}
	return x
}

// nd is a node, as it is told in words.
func nd(level, a, b, c, d int) api.Node {
	return api.Node{Level: level, Kids: [4]int{a, b, c, d}}
}

// spot is a place of a drawing.
type spot struct{ x, y int }

// drawing is a rule, and where cells of state 1 are, counted from a column and a row on, told apart from the package under test.
type drawing struct {
	rule string
	x, y *mathbig.Int
	on   []spot
}

// near is a drawing near 0, 0.
func near(rule string, on ...spot) drawing { return drawing{rule, whole(0), whole(0), on} }

// pattern is the drawing as a pattern.
func (d drawing) pattern(t *testing.T) api.Pattern {
	t.Helper()
	var l []api.Cell
	for _, s := range d.on {
		l = append(l, api.Cell{X: bigOf(plus(d.x, s.x)), Y: bigOf(plus(d.y, s.y)), State: 1})
	}
	q, e := cells.Of(l...)
	if e != api.OK {
		t.Fatalf("%v: %d", d, e)
	}
	return api.Pattern{Rule: d.rule, Quad: q}
}

// sorted are the drawing's spots by rows, then by columns, each once.
func (d drawing) sorted() []spot {
	on := slices.Clone(d.on)
	slices.SortFunc(on, func(a, b spot) int {
		if a.y != b.y {
			return a.y - b.y
		}
		return a.x - b.x
	})
	return slices.Compact(on)
}

// corner is the first column of a drawing with spots, and its first row.
func (d drawing) corner() spot {
	first := d.on[0]
	for _, s := range d.on {
		first.x, first.y = min(first.x, s.x), min(first.y, s.y)
	}
	return first
}

// rows are the drawing's rows of signs, . and one, from its first to its last one, each as far as it has a cell.
func (d drawing) rows(one string) []string {
	if len(d.on) == 0 {
		return nil
	}
	first := d.corner()
	rows := []string{""}
	for _, s := range d.sorted() {
		for len(rows) <= s.y-first.y {
			rows = append(rows, "")
		}
		last := len(rows) - 1
		rows[last] += strings.Repeat(".", s.x-first.x-len(rows[last])) + one
	}
	return rows
}

// text are lines, each with a line feed.
func text(lines ...string) string {
	return strings.Join(append(lines, ""), "\n")
}

// plain is the drawing's text as Plain.
func (d drawing) plain() string {
	return text(append([]string{"!Rule: " + d.rule}, d.rows("O")...)...)
}

// life5 is its text as Life5.
func (d drawing) life5() string {
	lines := []string{"#Life 1.05", "#R " + d.rule}
	if len(d.on) > 0 {
		first := d.corner()
		lines = append(lines, "#P "+plus(d.x, first.x).String()+" "+plus(d.y, first.y).String())
	}
	for _, row := range d.rows("*") {
		if row == "" {
			row = "."
		}
		lines = append(lines, row)
	}
	return text(lines...)
}

// life6 is its text as Life6.
func (d drawing) life6() string {
	lines := []string{"#Life 1.06", "#R " + d.rule}
	for _, s := range d.sorted() {
		lines = append(lines, plus(d.x, s.x).String()+" "+plus(d.y, s.y).String())
	}
	return text(lines...)
}

// call is one of the three, and its format.
type call struct {
	name   string
	format int
	do     func(api.Pattern, api.Limits) (string, api.Errno)
}

// calls are all three.
func calls() []call {
	return []call{{"Plain", api.Plain, flat.Plain}, {"Life5", api.Life5, flat.Life5}, {"Life6", api.Life6, flat.Life6}}
}

// short is at most the beginning of a text.
func short(s string) string { return s[:min(len(s), 300)] }

// writes asks for a pattern's texts, of Plain, Life5 and Life6.
func writes(t *testing.T, p api.Pattern, m api.Limits, texts ...string) {
	t.Helper()
	for i, c := range calls() {
		s, e := c.do(p, m)
		if e != api.OK || s != texts[i] {
			t.Errorf("%s of %q and %d nodes, %v: got %q, %d, want %q", c.name, p.Rule, len(p.Quad.Nodes), m, short(s), e, short(texts[i]))
		}
	}
}

// drawn asks for a drawing's texts.
func drawn(t *testing.T, d drawing, m api.Limits) {
	t.Helper()
	writes(t, d.pattern(t), m, d.plain(), d.life5(), d.life6())
}

// fails asks of all three for an error, and for no text beside it.
func fails(t *testing.T, p api.Pattern, m api.Limits, want api.Errno) {
	t.Helper()
	for _, c := range calls() {
		if s, e := c.do(p, m); e != want || s != "" {
			t.Errorf("%s of %q and %d nodes, %v: got %q, %d, want %d", c.name, p.Rule, len(p.Quad.Nodes), m, short(s), e, want)
		}
	}
}

// numberer answers numbers that look like chance, the same ones each time.
type numberer uint32

// below is the next one, from 0 to below n.
func (r *numberer) below(n int) int {
	*r = *r*1664525 + 1013904223
	return int(*r>>8) % n
}

// spots are up to count places in a square.
func (r *numberer) spots(count, side int) []spot {
	var on []spot
	for range count {
		on = append(on, spot{r.below(side), r.below(side)})
	}
	return on
}

// starts are columns, or rows, from which a drawing of that side may begin: near 0, at the edges of limbs and of where cells may be.
func starts(side int) []*mathbig.Int {
	l := []*mathbig.Int{minus(pow(far, 0)), pow(far, -side)}
	for _, n := range []int{0, 1, 9, 10, 99, 100, 1 << 31, 1 << 32, 1 << 62, math.MaxInt} {
		l = append(l, whole(n), whole(-n), whole(-n-side/2))
	}
	for _, n := range []int{32, 64, 96, 1000} {
		l = append(l, pow(n, -side/2), minus(pow(n, side/2)), pow(n, 0), minus(pow(n, 0)))
	}
	return l
}

// P12.1: texts that are written out.
func TestWritten(t *testing.T) {
	m := api.Limits{Box: 5}
	writes(t, near("B3/S23", spot{0, 0}, spot{1, 1}).pattern(t), m,
		"!Rule: B3/S23\nO\n.O\n",
		"#Life 1.05\n#R B3/S23\n#P 0 0\n*\n.*\n",
		"#Life 1.06\n#R B3/S23\n0 0\n1 1\n")
	writes(t, near("a", spot{-7, 12}).pattern(t), m,
		"!Rule: a\nO\n",
		"#Life 1.05\n#R a\n#P -7 12\n*\n",
		"#Life 1.06\n#R a\n-7 12\n")
	writes(t, near("B36/S23", spot{1, -1}, spot{0, 3}, spot{4, -1}, spot{-1, 1}).pattern(t), api.Limits{Box: 6},
		"!Rule: B36/S23\n..O..O\n\nO\n\n.O\n",
		"#Life 1.05\n#R B36/S23\n#P -1 -1\n..*..*\n.\n*\n.\n.*\n",
		"#Life 1.06\n#R B36/S23\n1 -1\n4 -1\n-1 1\n0 3\n")
	corner := drawing{"x", minus(pow(64, 0)), pow(64, 0), []spot{{0, 0}}}
	writes(t, corner.pattern(t), api.Limits{Box: 1},
		"!Rule: x\nO\n",
		"#Life 1.05\n#R x\n#P -18446744073709551616 18446744073709551616\n*\n",
		"#Life 1.06\n#R x\n-18446744073709551616 18446744073709551616\n")
}

// P12.1: a pattern without cells is its rule alone, within the least limits, too.
func TestNone(t *testing.T) {
	for _, rule := range []string{"x", "B3/S23", strings.Repeat("~", 40)} {
		for _, m := range []api.Limits{{}, {Nodes: 100000}, {Box: 1}, wide} {
			for _, q := range []api.Quad{{}, {Nodes: []api.Node{}}} {
				writes(t, api.Pattern{Rule: rule, Quad: q}, m, "!Rule: "+rule+"\n", "#Life 1.05\n#R "+rule+"\n", "#Life 1.06\n#R "+rule+"\n")
			}
		}
	}
}

// P12.1: rules are written just as they are, whatever signs they have.
func TestRules(t *testing.T) {
	rules := []string{"!", "#P", "#", "..O", "***", "0", "$", "%s", "\\n", strings.Repeat("r", 40)}
	for c := byte(33); c <= 126; c++ {
		rules = append(rules, string([]byte{c}), "a"+string([]byte{c})+"b")
	}
	for _, rule := range rules {
		drawn(t, near(rule), wide)
		drawn(t, near(rule, spot{3, -4}, spot{5, -2}), wide)
	}
}

// P12.1: all ways in which the cells of a square of three may be, at some places.
func TestSmall(t *testing.T) {
	for _, start := range []spot{{0, 0}, {-1, -2}, {-3, 0}, {9, -11}, {-100, 99}} {
		for set := range 1 << 9 {
			d := near("B3/S23")
			for i := range 9 {
				if set>>i&1 == 1 {
					d.on = append(d.on, spot{start.x + i%3, start.y + i/3})
				}
			}
			drawn(t, d, api.Limits{Box: 3})
		}
	}
}

// P12.1: many drawings, narrow and wide, dense and thin, wherever they are.
func TestMany(t *testing.T) {
	r := numberer(1)
	for range 3 {
		for _, side := range []int{1, 2, 5, 17, 40} {
			l := starts(side)
			for _, x := range l {
				y := l[r.below(len(l))]
				drawn(t, drawing{"B3/S23", x, y, r.spots(1+r.below(2*side), side)}, wide)
				drawn(t, drawing{"B2/S", y, x, r.spots(1+r.below(side), side)}, wide)
			}
		}
	}
}

// P12.1: two cells so wide or so high apart, around each limit.
func TestBoxes(t *testing.T) {
	for _, most := range []int{0, 1, 2, 3, 33, 256, 1000} {
		m := api.Limits{Box: most}
		for size := max(1, most-2); size <= min(most+2, 1001); size++ {
			for _, from := range starts(size) {
				for _, to := range []spot{{size - 1, 0}, {0, size - 1}, {size - 1, size - 1}} {
					if most > 3 && to.x == to.y && from.BitLen() > 64 {
						continue
					}
					d := drawing{"B3/S23", from, from, []spot{{0, 0}, to}}
					if size <= most {
						drawn(t, d, m)
					} else {
						fails(t, d.pattern(t), m, api.ErrExpress)
					}
				}
			}
		}
	}
}

// P12.1: as many cells as a box may have, and those around its sides.
func TestGreat(t *testing.T) {
	full, sides := near("B3/S23"), drawing{rule: "B3/S23", x: minus(pow(far, 0)), y: pow(far, -1000)}
	for i := range 1000 {
		for k := range 1000 {
			full.on = append(full.on, spot{k - 500, i - 499})
		}
		sides.on = append(sides.on, spot{i, 0}, spot{i, 999}, spot{0, i}, spot{999, i})
	}
	drawn(t, full, wide)
	drawn(t, sides, wide)
	full.on = append(full.on, spot{500, 0})
	fails(t, full.pattern(t), wide, api.ErrExpress)
}

// P12.1: cells that are farther apart than any box, by multiples of limbs and of ints, too.
func TestApart(t *testing.T) {
	for _, n := range []int{10, 31, 32, 33, 63, 64, 65, 1000, far - 1} {
		for _, c := range [][2]*mathbig.Int{{pow(n, 0), whole(0)}, {whole(0), minus(pow(n, 0))}} {
			q, e := cells.Of(api.Cell{State: 1}, api.Cell{X: bigOf(c[0]), Y: bigOf(c[1]), State: 1})
			if e != api.OK {
				t.Fatal(e)
			}
			fails(t, api.Pattern{Rule: "x", Quad: q}, wide, api.ErrExpress)
		}
	}
}

// P12.1: a state above 1, alone and among others, none of the three can express.
func TestStates(t *testing.T) {
	for state := 2; state <= 255; state++ {
		q := api.Quad{Nodes: []api.Node{nd(1, 0, 0, 0, state)}}
		fails(t, api.Pattern{Rule: "x", Quad: q}, wide, api.ErrExpress)
		q = api.Quad{Nodes: []api.Node{nd(1, 1, 1, 1, 1), nd(1, 1, 0, state, 1), nd(2, 1, 1, 2, 0)}}
		fails(t, api.Pattern{Rule: "x", Quad: q}, wide, api.ErrExpress)
	}
}

// P12.1: where Kids are the numbers of many nodes these are no states.
func TestManyNodes(t *testing.T) {
	r := numberer(8)
	d := near("B3/S23", append(r.spots(4000, 100), spot{0, 0}, spot{99, 99})...)
	if p := d.pattern(t); len(p.Quad.Nodes) < 300 {
		t.Fatal("too few nodes for this test")
	}
	drawn(t, d, api.Limits{Box: 100})
	fails(t, d.pattern(t), api.Limits{Box: 99, Nodes: 100000}, api.ErrExpress)
}

// P12.1: how many nodes there may be changes nothing.
func TestNodesLimit(t *testing.T) {
	d := near("B3/S23", spot{0, 0}, spot{1, 5}, spot{6, 2})
	for _, nodes := range []int{0, 1, 2, 100000} {
		drawn(t, d, api.Limits{Box: 7, Nodes: nodes})
		fails(t, d.pattern(t), api.Limits{Box: 6, Nodes: nodes}, api.ErrExpress)
	}
}

// wrongRules are texts that are no rules.
func wrongRules() []string {
	return []string{"", " ", "B3 S23", "B3/S23\n", "\tB3", "a\x7f", "a\x00", "\xff", "r\u00e9gle", strings.Repeat("r", 41), strings.Repeat("r", 1<<16+10)}
}

// wrongQuads are quads that may not be.
func wrongQuads() []api.Quad {
	lists := [][]api.Node{
		{nd(0, 0, 0, 0, 1)},
		{nd(1, 0, 0, 0, 0)},
		{nd(1, 0, 0, 0, 256)},
		{nd(1, 0, 0, 0, -1)},
		{nd(1, 0, 0, 0, 1), nd(1, 0, 0, 0, 1)},
		{nd(1, 0, 0, 0, 1), nd(2, 1, 0, 0, 0)},
		{nd(1, 0, 0, 0, 1), nd(2, 2, 0, 0, 1)},
		{nd(1, 0, 0, 0, 1), nd(2, 1, 0, 0, 5)},
		{nd(3, 0, 0, 0, 1)},
		{nd(-1, 1, 1, 1, 1)},
		{nd(math.MaxInt, 1, 1, 1, 1)},
		{nd(1, math.MinInt, math.MaxInt, 1, 1)},
	}
	var quads []api.Quad
	for _, l := range lists {
		quads = append(quads, api.Quad{Nodes: l})
	}
	return quads
}

// wrongLimits are limits that may not be.
func wrongLimits() []api.Limits {
	return []api.Limits{{Box: -1}, {Box: 1001}, {Nodes: -1}, {Nodes: 100001}, {Box: -1, Nodes: -1}, {Box: 9, Nodes: math.MaxInt}, {Box: math.MinInt, Nodes: 9}, {Box: 1 << 32}, {Box: math.MaxInt}}
}

// P12.1: rules, quads and limits that may not be: ErrArg, also where the pattern couldn't be expressed.
func TestWrong(t *testing.T) {
	right := []api.Quad{{}, {Nodes: []api.Node{nd(1, 0, 0, 0, 1)}}, {Nodes: []api.Node{nd(1, 0, 0, 0, 2)}}}
	apart := near("x", spot{0, 0}, spot{1001, 0}).pattern(t).Quad
	limits := []api.Limits{{}, {Box: 1}, wide}
	for _, q := range append(right, apart) {
		for _, m := range append(limits, wrongLimits()...) {
			for _, rule := range wrongRules() {
				fails(t, api.Pattern{Rule: rule, Quad: q}, m, api.ErrArg)
			}
		}
		for _, m := range wrongLimits() {
			fails(t, api.Pattern{Rule: "x", Quad: q}, m, api.ErrArg)
		}
	}
	for _, q := range wrongQuads() {
		for _, m := range append(limits, wrongLimits()...) {
			fails(t, api.Pattern{Rule: "x", Quad: q}, m, api.ErrArg)
			fails(t, api.Pattern{Rule: "", Quad: q}, m, api.ErrArg)
		}
	}
}

// P12.1: each tells layer 11's Check's error, of its own format.
func TestCheck(t *testing.T) {
	r := numberer(5)
	for range 300 {
		side := 1 + r.below(12)
		d := near("B3/S23", r.spots(r.below(6), side)...)
		p := d.pattern(t)
		for box := -1; box <= 13; box++ {
			m := api.Limits{Box: box, Nodes: r.below(3)}
			for _, c := range calls() {
				want := pattern.Check(c.format, p, m)
				if s, e := c.do(p, m); e != want || (e == api.OK) != (s != "") {
					t.Fatalf("%s of %v, %v: got %q, %d, want %d", c.name, d, m, s, e, want)
				}
			}
		}
	}
}

// P12.1: what is handed in stays as it was, its spare room too, and is answered of in the same way again.
func TestLeft(t *testing.T) {
	r := numberer(7)
	for range 200 {
		side := 1 + r.below(30)
		p := near("B3/S23", r.spots(r.below(20), side)...).pattern(t)
		count := len(p.Quad.Nodes)
		nodes := append(slices.Clone(p.Quad.Nodes), nd(9, 9, 9, 9, 9), nd(8, 8, 8, 8, 8))
		kept := slices.Clone(nodes)
		q := api.Pattern{Rule: p.Rule, Quad: api.Quad{Nodes: nodes[:count]}}
		for _, m := range []api.Limits{{}, {Box: 9}, wide, {Box: -1}} {
			for _, c := range calls() {
				s, e := c.do(q, m)
				again, f := c.do(p, m)
				if s != again || e != f || !slices.Equal(nodes, kept) {
					t.Fatalf("%s of %v, %v: changed", c.name, p, m)
				}
			}
		}
	}
}

// home is the drawing with its first column and row at 0, 0.
func (d drawing) home() drawing {
	h := near(d.rule)
	for _, s := range d.on {
		h.on = append(h.on, spot{s.x - d.corner().x, s.y - d.corner().y})
	}
	return h
}

// seen tells of each text by which pattern it was written first.
type seen map[string]api.Pattern

// one asks that no other pattern has been written as the same text, and that no other text is of it.
func (l seen) one(t *testing.T, name, s string, p api.Pattern) {
	t.Helper()
	if was, ok := l[s]; ok && !pattern.Same(was, p) {
		t.Fatalf("%s: %q is of %v and of %v", name, s, was, p)
	}
	l[s] = p
}

// P12.2: no two patterns have the same text; as Plain none but such as are the same at home.
func TestOneWay(t *testing.T) {
	known := [3]seen{{}, {}, {}}
	for _, rule := range []string{"a", "b", "a#", "aO"} {
		for _, at := range []spot{{0, 0}, {1, 0}, {0, 1}, {-1, -1}, {-2, 10}, {11, -1}} {
			for set := range 1 << 9 {
				d := near(rule)
				for i := range 9 {
					if set>>i&1 == 1 {
						d.on = append(d.on, spot{at.x + i%3, at.y + i/3})
					}
				}
				p := d.pattern(t)
				for i, c := range calls() {
					s, e := c.do(p, wide)
					if e != api.OK {
						t.Fatalf("%s of %v: %d", c.name, p, e)
					}
					if c.format == api.Plain {
						known[i].one(t, c.name, s, d.home().pattern(t))
					} else {
						known[i].one(t, c.name, s, p)
					}
				}
			}
		}
	}
}

// P12.2: in whatever order cells come, and however often, the texts are the same; as Plain wherever they are.
func TestSameTexts(t *testing.T) {
	r := numberer(11)
	for range 100 {
		side := 1 + r.below(20)
		d := near("B3/S23", r.spots(1+r.below(30), side)...)
		back := near("B3/S23", append(slices.Clone(d.on), d.on...)...)
		slices.Reverse(back.on)
		for _, c := range calls() {
			a, _ := c.do(d.pattern(t), wide)
			if b, _ := c.do(back.pattern(t), wide); a != b {
				t.Fatalf("%s of %v: %q and %q", c.name, d.on, a, b)
			}
		}
		a, _ := flat.Plain(d.pattern(t), wide)
		for _, x := range starts(side) {
			moved := drawing{d.rule, x, x, d.on}
			if b, _ := flat.Plain(moved.pattern(t), wide); a != b {
				t.Fatalf("Plain of %v at %v: %q and %q", d.on, x, a, b)
			}
		}
	}
}

// readRows are the cells of rows of signs, from a column and a row on.
func readRows(t *testing.T, rows []string, one byte, x, y *mathbig.Int) []api.Cell {
	t.Helper()
	var l []api.Cell
	for k, row := range rows {
		for i := range len(row) {
			switch row[i] {
			case one:
				l = append(l, api.Cell{X: bigOf(plus(x, i)), Y: bigOf(plus(y, k)), State: 1})
			case '.':
			default:
				t.Fatalf("row %q", row)
			}
		}
	}
	return l
}

// place is what a text of two numbers tells.
func place(t *testing.T, s string) (x, y *mathbig.Int) {
	t.Helper()
	a, b, _ := strings.Cut(s, " ")
	x, okX := new(mathbig.Int).SetString(a, 10)
	y, okY := new(mathbig.Int).SetString(b, 10)
	if !okX || !okY || x.String() != a || y.String() != b {
		t.Fatalf("no place: %q", s)
	}
	return x, y
}

// read are the cells of a text with cells, by its own words, and its rule.
func read(t *testing.T, format int, s string) (string, []api.Cell) {
	t.Helper()
	lines := strings.Split(strings.TrimSuffix(s, "\n"), "\n")
	if format == api.Plain {
		return strings.TrimPrefix(lines[0], "!Rule: "), readRows(t, lines[1:], 'O', whole(0), whole(0))
	}
	rule := strings.TrimPrefix(lines[1], "#R ")
	if format == api.Life5 {
		x, y := place(t, strings.TrimPrefix(lines[2], "#P "))
		return rule, readRows(t, lines[3:], '*', x, y)
	}
	var l []api.Cell
	for _, line := range lines[2:] {
		x, y := place(t, line)
		l = append(l, api.Cell{X: bigOf(x), Y: bigOf(y), State: 1})
	}
	return rule, l
}

// P12.2: whoever reads a text by its words has the pattern again; as Plain at home.
func TestRead(t *testing.T) {
	r := numberer(13)
	for range 20 {
		side := 1 + r.below(30)
		for _, x := range starts(side) {
			d := drawing{"B3/S23", x, starts(side)[r.below(20)], r.spots(1+r.below(40), side)}
			for _, c := range calls() {
				s, e := c.do(d.pattern(t), wide)
				if e != api.OK {
					t.Fatalf("%s of %v: %d", c.name, d, e)
				}
				rule, l := read(t, c.format, s)
				q, _ := cells.Of(l...)
				want := d
				if c.format == api.Plain {
					want = d.home()
				}
				if !pattern.Same(api.Pattern{Rule: rule, Quad: q}, want.pattern(t)) {
					t.Fatalf("%s of %v: %q is another pattern", c.name, d, s)
				}
			}
		}
	}
}
