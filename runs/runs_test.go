package runs_test

import (
	"fmt"
	"math"
	mathbig "math/big"
	"slices"
	"strconv"
	"strings"
	"testing"

	"glider/api"
	"glider/cells"
	"glider/pattern"
	"glider/runs"
)

// Cells may be from -2^far to below 2^far.
const far = 1328

// wide are the greatest limits.
var wide = api.Limits{Box: 1000, Nodes: 100000}

// whole is a number of math/big.
func whole(n int) *mathbig.Int { return mathbig.NewInt(int64(n)) }

// pow is 2^n, and d.
func pow(n, d int) *mathbig.Int {
	return new(mathbig.Int).Add(new(mathbig.Int).Lsh(whole(1), uint(n)), whole(d))
}

// minus is -n.
func minus(n *mathbig.Int) *mathbig.Int { return new(mathbig.Int).Neg(n) }

// plus is n, and d.
func plus(n *mathbig.Int, d int) *mathbig.Int { return new(mathbig.Int).Add(n, whole(d)) }

// bigOf is the one big number that may be and that n is.
func bigOf(n *mathbig.Int) api.Big {
	x := api.Big{Neg: n.Sign() < 0}
	for n = new(mathbig.Int).Abs(n); n.Sign() > 0; n.Rsh(n, 32) {
		x.Limbs = append(x.Limbs, uint32(n.Uint64()))
	}
	return x
}

// nd is a node, as it is told in words.
func nd(level, a, b, c, d int) api.Node {
	return api.Node{Level: level, Kids: [4]int{a, b, c, d}}
}

// spot is a place of a drawing, and its state.
type spot struct {
	x, y  int
	state byte
}

// drawing is a rule, and cells that aren't 0, each place once, counted from a column and a row on, told apart from the package under test.
type drawing struct {
	rule string
	x, y *mathbig.Int
	on   []spot
}

// near is a drawing near 0, 0.
func near(rule string, on ...spot) drawing { return drawing{rule, whole(0), whole(0), on} }

// pattern is the drawing as a pattern.
func (d drawing) pattern(t *testing.T) api.Pattern {
	t.Helper()
	var l []api.Cell
	for _, s := range d.on {
		l = append(l, api.Cell{X: bigOf(plus(d.x, s.x)), Y: bigOf(plus(d.y, s.y)), State: s.state})
	}
	q, e := cells.Of(l...)
	if e != api.OK {
		t.Fatalf("%v: %d", d, e)
	}
	return api.Pattern{Rule: d.rule, Quad: q}
}

// byRows are spots by rows, then by columns.
func byRows(on []spot) []spot {
	on = slices.Clone(on)
	slices.SortFunc(on, func(a, b spot) int {
		if a.y != b.y {
			return a.y - b.y
		}
		return a.x - b.x
	})
	return on
}

// corners are the first column and row of a drawing with spots, and the last ones.
func (d drawing) corners() (spot, spot) {
	first, last := d.on[0], d.on[0]
	for _, s := range d.on {
		first.x, first.y = min(first.x, s.x), min(first.y, s.y)
		last.x, last.y = max(last.x, s.x), max(last.y, s.y)
	}
	return first, last
}

// signs are the signs of all states, in their order, listed one by one.
func signs(two bool) []string {
	l := strings.Split(".ABCDEFGHIJKLMNOPQRSTUVWX", "")
	for _, a := range strings.Split("pqrstuvwxy", "") {
		for _, b := range strings.Split("ABCDEFGHIJKLMNOPQRSTUVWX", "") {
			l = append(l, a+b)
		}
	}
	if two {
		l[0], l[1] = "b", "o"
	}
	return l[:256]
}

// writer collects tokens; the same sign once more counts on.
type writer struct {
	counts []int
	signs  []string
}

// put puts so many of a sign.
func (w *writer) put(count int, sign string) {
	if last := len(w.signs) - 1; last >= 0 && w.signs[last] == sign {
		w.counts[last] += count
	} else if count > 0 {
		w.counts, w.signs = append(w.counts, count), append(w.signs, sign)
	}
}

// tokens are what was put.
func (w *writer) tokens() []string {
	var l []string
	for i, sign := range w.signs {
		if w.counts[i] > 1 {
			sign = strconv.Itoa(w.counts[i]) + sign
		}
		l = append(l, sign)
	}
	return l
}

// tokens are those of spots, from a column on: from cell to cell.
func tokens(on []spot, x int) []string {
	on = byRows(on)
	two := !slices.ContainsFunc(on, func(s spot) bool { return s.state > 1 })
	known := signs(two)
	var w writer
	column := x
	for i, s := range on {
		if i > 0 && s.y != on[i-1].y {
			w.put(s.y-on[i-1].y, "$")
			column = x
		}
		w.put(s.x-column, known[0])
		w.put(1, known[s.state])
		column = s.x + 1
	}
	w.put(1, "!")
	return w.tokens()
}

// text is the drawing's text.
func (d drawing) text() string {
	x, y, w, h, column := whole(0), whole(0), 0, 0, 0
	if len(d.on) > 0 {
		first, last := d.corners()
		x, y, w, h, column = plus(d.x, first.x), plus(d.y, first.y), last.x-first.x+1, last.y-first.y+1, first.x
	}
	s := fmt.Sprintf("#CXRLE Pos=%v,%v\nx = %d, y = %d, rule = %s\n", x, y, w, h, d.rule)
	lines := []string{""}
	for _, token := range tokens(d.on, column) {
		if len(lines[len(lines)-1]+token) > 70 {
			lines = append(lines, "")
		}
		lines[len(lines)-1] += token
	}
	return s + strings.Join(append(lines, ""), "\n")
}

// rowsOf are the rows of a grid of that size.
func rowsOf(on []spot, w, h int) []string {
	rows := make([][]byte, h)
	for k := range rows {
		rows[k] = make([]byte, w)
	}
	for _, s := range on {
		rows[s.y][s.x] = s.state
	}
	var l []string
	for _, row := range rows {
		l = append(l, string(row))
	}
	return l
}

// short is at most the beginning of a text.
func short(s string) string { return s[:min(len(s), 300)] }

// writes asks for a pattern's text.
func writes(t *testing.T, p api.Pattern, m api.Limits, want string) {
	t.Helper()
	if s, e := runs.Text(p, m); e != api.OK || s != want {
		t.Errorf("%q and %d nodes, %v: got %q, %d, want %q", p.Rule, len(p.Quad.Nodes), m, short(s), e, short(want))
	}
}

// drawn asks for a drawing's text.
func drawn(t *testing.T, d drawing, m api.Limits) {
	t.Helper()
	writes(t, d.pattern(t), m, d.text())
}

// fails asks for an error, and for no text beside it.
func fails(t *testing.T, p api.Pattern, m api.Limits, want api.Errno) {
	t.Helper()
	if s, e := runs.Text(p, m); e != want || s != "" {
		t.Errorf("%q and %d nodes, %v: got %q, %d, want %d", p.Rule, len(p.Quad.Nodes), m, short(s), e, want)
	}
}

// gridded asks for a grid's tokens.
func gridded(t *testing.T, on []spot, w, h int) {
	t.Helper()
	g := api.Grid{Rows: rowsOf(on, w, h)}
	if got, want := runs.Tokens(g), tokens(on, 0); !slices.Equal(got, want) {
		t.Errorf("%q: got %q, want %q", g.Rows, got, want)
	}
}

// numberer answers numbers that look like chance, the same ones each time.
type numberer uint32

// below is the next one, from 0 to below n.
func (r *numberer) below(n int) int {
	*r = *r*1664525 + 1013904223
	return int(*r>>8) % n
}

// spots are up to count places in a square, each once, of states from 1 to top, of few ones mostly.
func (r *numberer) spots(count, side, top int) []spot {
	var on []spot
	known := map[[2]int]bool{}
	for range count {
		at := [2]int{r.below(side), r.below(side)}
		if !known[at] {
			on = append(on, spot{at[0], at[1], byte(1 + r.below(1+r.below(top)))})
		}
		known[at] = true
	}
	return on
}

// starts are columns, or rows, from which a drawing of that side may begin: near 0, at the edges of limbs and of where cells may be.
func starts(side int) []*mathbig.Int {
	l := []*mathbig.Int{minus(pow(far, 0)), pow(far, -side)}
	for _, n := range []int{0, 1, 9, 10, 99, 100, 1 << 31, 1 << 32, 1 << 62, math.MaxInt} {
		l = append(l, whole(n), whole(-n), whole(-n-side/2))
	}
	for _, n := range []int{32, 64, 96, 1000} {
		l = append(l, pow(n, -side/2), minus(pow(n, side/2)), pow(n, 0), minus(pow(n, 0)))
	}
	return l
}

// P13.1: the signs of all states, written out at the edges.
func TestSign(t *testing.T) {
	for _, two := range []bool{false, true} {
		for state, want := range signs(two) {
			if got := runs.Sign(byte(state), two); got != want {
				t.Errorf("%d, %v: got %q, want %q", state, two, got, want)
			}
		}
	}
	for state, want := range map[byte]string{2: "B", 23: "W", 24: "X", 25: "pA", 26: "pB", 48: "pX", 49: "qA", 240: "xX", 241: "yA", 254: "yN", 255: "yO"} {
		if a, b := runs.Sign(state, false), runs.Sign(state, true); a != want || b != want {
			t.Errorf("%d: got %q and %q, want %q", state, a, b, want)
		}
	}
	for i, want := range []string{".", "A"} {
		if got := runs.Sign(byte(i), false); got != want {
			t.Errorf("%d: got %q, want %q", i, got, want)
		}
	}
	for i, want := range []string{"b", "o"} {
		if got := runs.Sign(byte(i), true); got != want {
			t.Errorf("%d of two: got %q, want %q", i, got, want)
		}
	}
}

// P13.1: tokens that are written out.
func TestTokens(t *testing.T) {
	for _, x := range []struct {
		rows []string
		want string
	}{
		{nil, "!"},
		{[]string{}, "!"},
		{[]string{""}, "!"},
		{[]string{"", "", ""}, "!"},
		{[]string{"\x00"}, "!"},
		{[]string{"\x00\x00", "\x00\x00"}, "!"},
		{[]string{"\x01"}, "o !"},
		{[]string{"\x02"}, "B !"},
		{[]string{"\xff"}, "yO !"},
		{[]string{"\x00\x01\x00", "\x00\x00\x01", "\x01\x01\x01"}, "b o $ 2b o $ 3o !"},
		{[]string{"\x00\x01\x00", "\x00\x00\x02", "\x01\x01\x01"}, ". A $ 2. B $ 3A !"},
		{[]string{"\x00\x00", "\x00\x01", "\x00\x00", "\x01\x00", "\x00\x00"}, "b o 2$ o !"},
		{[]string{"\x01", "\x01"}, "o $ o !"},
		{[]string{"\x00\x02", "\x02\x00"}, ". B $ B !"},
		{[]string{"\x01\x01\x02\x02\x02\x01"}, "2A 3B A !"},
		{[]string{"\x19\x19\x18\x18\x30\x31"}, "2pA 2X pX qA !"},
		{[]string{"\x00\x00\x00\x00\x00\x00\x00\x00\x00\x00\x01\x00"}, "10b o !"},
		{[]string{"\xe2\x82\xac", "\xac\x00\xe2", "\x00\xf0\x9f"}, "xJ tJ vD $ vD . xJ $ . xX uO !"},
		{[]string{"012", "210"}, "pX qA qB $ qB qA pX !"},
		{[]string{"  \n", "\n  "}, "2pH J $ J 2pH !"},
	} {
		if got := runs.Tokens(api.Grid{Rows: x.rows}); strings.Join(got, " ") != x.want {
			t.Errorf("%q: got %q, want %q", x.rows, got, x.want)
		}
	}
}

// P13.1: where the grid is changes no token.
func TestTokensAnywhere(t *testing.T) {
	rows := []string{"\x00\x01\x01", "\x00\x00\x00", "\x01\x00\x01"}
	for _, n := range append(starts(3), pow(10000, 0), minus(pow(10000, -1))) {
		g := api.Grid{X: bigOf(n), Y: bigOf(minus(n)), Rows: rows}
		if got := runs.Tokens(g); strings.Join(got, "") != "b2o2$obo!" {
			t.Errorf("%v: %q", n, got)
		}
	}
}

// P13.1: all ways in which a grid of three by three may be of two states, and those in which one of two by three may be of more.
func TestSmallGrids(t *testing.T) {
	for set := range 1 << 9 {
		var on []spot
		for i := range 9 {
			if set>>i&1 == 1 {
				on = append(on, spot{i % 3, i / 3, 1})
			}
		}
		gridded(t, on, 3, 3)
	}
	states := []byte{0, 1, 24, 255}
	for set := range 1 << 12 {
		var on []spot
		for i := range 6 {
			if s := states[set>>(2*i)&3]; s != 0 {
				on = append(on, spot{i % 2, i / 2, s})
			}
		}
		gridded(t, on, 2, 3)
	}
}

// P13.1: many grids, with rows and columns of 0 around.
func TestManyGrids(t *testing.T) {
	r := numberer(3)
	for range 3000 {
		w, h := 1+r.below(40), 1+r.below(20)
		side := min(w, h)
		on := r.spots(r.below(2*side*side), side, []int{1, 2, 30, 255}[r.below(4)])
		for i := range on {
			on[i].x, on[i].y = on[i].x+w-side, on[i].y+h-side
		}
		gridded(t, on, w, h)
	}
}

// P13.1: a run, a gap and a way from row to row of each length that there may be.
func TestLengths(t *testing.T) {
	for n := 1; n <= 1000; n++ {
		many := strconv.Itoa(n)
		if n == 1 {
			many = ""
		}
		for _, x := range []struct {
			rows []string
			want []string
		}{
			{[]string{strings.Repeat("\x01", n)}, []string{many + "o", "!"}},
			{[]string{strings.Repeat("\xff", n)}, []string{many + "yO", "!"}},
			{[]string{strings.Repeat("\x00", n)}, []string{"!"}},
			{append(make([]string, n), ""), []string{"!"}},
		} {
			if got := runs.Tokens(api.Grid{Rows: x.rows[:min(len(x.rows), 1000)]}); !slices.Equal(got, x.want) {
				t.Errorf("%d: got %q, want %q", n, got, x.want)
			}
		}
		if n == 1000 {
			continue
		}
		if got := runs.Tokens(api.Grid{Rows: []string{strings.Repeat("\x00", n) + "\x01"}}); !slices.Equal(got, []string{many + "b", "o", "!"}) {
			t.Errorf("%d: %q", n, got)
		}
		gridded(t, []spot{{0, 0, 1}, {0, n, 1}}, 1, n+1)
		gridded(t, []spot{{0, n, 1}}, 1, n+1)
		gridded(t, []spot{{0, 0, 7}}, 1, n+1)
	}
}

// P13.1: texts that are written out.
func TestWritten(t *testing.T) {
	m := api.Limits{Box: 5}
	glider := near("B3/S23", spot{1, 0, 1}, spot{2, 1, 1}, spot{0, 2, 1}, spot{1, 2, 1}, spot{2, 2, 1})
	writes(t, glider.pattern(t), m, "#CXRLE Pos=0,0\nx = 3, y = 3, rule = B3/S23\nbo$2bo$3o!\n")
	writes(t, near("a", spot{-7, 12, 1}).pattern(t), m, "#CXRLE Pos=-7,12\nx = 1, y = 1, rule = a\no!\n")
	writes(t, near("a", spot{-7, -2, 2}, spot{-4, 1, 1}).pattern(t), m, "#CXRLE Pos=-7,-2\nx = 4, y = 4, rule = a\nB3$3.A!\n")
	writes(t, near("a", spot{2, 0, 255}, spot{0, 1, 25}, spot{1, 1, 25}).pattern(t), m, "#CXRLE Pos=0,0\nx = 3, y = 2, rule = a\n2.yO$2pA!\n")
	corner := drawing{"x", minus(pow(64, 0)), pow(64, 0), []spot{{0, 0, 1}}}
	writes(t, corner.pattern(t), m, "#CXRLE Pos=-18446744073709551616,18446744073709551616\nx = 1, y = 1, rule = x\no!\n")
}

// P13.1: a pattern without cells, within the least limits, too.
func TestNone(t *testing.T) {
	for _, rule := range []string{"x", "B3/S23", strings.Repeat("~", 40)} {
		for _, m := range []api.Limits{{}, {Nodes: 100000}, {Box: 1}, wide} {
			for _, q := range []api.Quad{{}, {Nodes: []api.Node{}}} {
				writes(t, api.Pattern{Rule: rule, Quad: q}, m, "#CXRLE Pos=0,0\nx = 0, y = 0, rule = "+rule+"\n!\n")
			}
		}
	}
}

// P13.1: rules are written just as they are, whatever signs they have.
func TestRules(t *testing.T) {
	rules := []string{"!", "#CXRLE", "rule", "x=0,y=0", "$", "%s", "\\n", strings.Repeat("r", 40)}
	for c := byte(33); c <= 126; c++ {
		rules = append(rules, string([]byte{c}), "a"+string([]byte{c})+"b")
	}
	for _, rule := range rules {
		drawn(t, near(rule), wide)
		drawn(t, near(rule, spot{3, -4, 1}, spot{5, -2, 1}), wide)
		drawn(t, near(rule, spot{3, -4, 1}, spot{5, -2, 2}), wide)
	}
}

// P13.1: each state alone, and beside others.
func TestStates(t *testing.T) {
	for state := 1; state <= 255; state++ {
		drawn(t, near("x", spot{-1, -1, byte(state)}), api.Limits{Box: 1})
		drawn(t, near("x", spot{-1, -1, 1}, spot{2, 1, byte(state)}), api.Limits{Box: 4})
		drawn(t, near("x", spot{-1, -1, byte(state)}, spot{0, -1, byte(state)}, spot{2, 1, 255}), api.Limits{Box: 4})
	}
}

// P13.1: many drawings, narrow and wide, dense and thin, wherever they are.
func TestMany(t *testing.T) {
	r := numberer(1)
	for range 3 {
		for _, side := range []int{1, 2, 5, 17, 40} {
			l := starts(side)
			for _, x := range l {
				y := l[r.below(len(l))]
				drawn(t, drawing{"B3/S23", x, y, r.spots(1+r.below(2*side), side, 1)}, wide)
				drawn(t, drawing{"B2/S", y, x, r.spots(1+r.below(2*side*side), side, 255)}, wide)
			}
		}
	}
}

// P13.1: two cells so wide or so high apart, around each limit.
func TestBoxes(t *testing.T) {
	for _, most := range []int{0, 1, 2, 3, 33, 256, 1000} {
		m := api.Limits{Box: most}
		for size := max(1, most-2); size <= min(most+2, 1001); size++ {
			for _, from := range starts(size) {
				for _, to := range [][2]int{{size - 1, 0}, {0, size - 1}, {size - 1, size - 1}} {
					d := drawing{"B3/S23", from, from, []spot{{0, 0, 1}}}
					if size > 1 {
						d.on = append(d.on, spot{to[0], to[1], 9})
					}
					if size <= most {
						drawn(t, d, m)
					} else {
						fails(t, d.pattern(t), m, api.ErrExpress)
					}
				}
			}
		}
	}
}

// P13.1: as many cells as a box may have, of one state and of as many runs as there may be.
func TestGreat(t *testing.T) {
	full, mixed := near("B3/S23"), drawing{rule: "B3/S23", x: minus(pow(40, 0)), y: pow(40, 0)}
	for i := range 1000 {
		for k := range 1000 {
			full.on = append(full.on, spot{k - 500, i - 499, 1})
			if state := byte(7*i + k); state != 0 {
				mixed.on = append(mixed.on, spot{k, i, state})
			}
		}
	}
	drawn(t, full, wide)
	drawn(t, mixed, wide)
}

// P13.1: cells that are farther apart than any box, by multiples of limbs and of ints, too.
func TestApart(t *testing.T) {
	for _, n := range []int{10, 31, 32, 33, 63, 64, 65, 1000, far - 1} {
		for _, c := range [][2]*mathbig.Int{{pow(n, 0), whole(0)}, {whole(0), minus(pow(n, 0))}} {
			q, e := cells.Of(api.Cell{State: 1}, api.Cell{X: bigOf(c[0]), Y: bigOf(c[1]), State: 1})
			if e != api.OK {
				t.Fatal(e)
			}
			fails(t, api.Pattern{Rule: "x", Quad: q}, wide, api.ErrExpress)
		}
	}
}

// P13.1: how many nodes there may be changes nothing.
func TestNodesLimit(t *testing.T) {
	d := near("B3/S23", spot{0, 0, 1}, spot{1, 5, 3}, spot{6, 2, 200})
	for _, nodes := range []int{0, 1, 2, 100000} {
		drawn(t, d, api.Limits{Box: 7, Nodes: nodes})
		fails(t, d.pattern(t), api.Limits{Box: 6, Nodes: nodes}, api.ErrExpress)
	}
}

// wrongRules are texts that are no rules.
func wrongRules() []string {
	return []string{"", " ", "B3 S23", "B3/S23\n", "\tB3", "a\x7f", "a\x00", "\xff", "r\u00e9gle", strings.Repeat("r", 41), strings.Repeat("r", 1<<16+10)}
}

// wrongQuads are quads that may not be.
func wrongQuads() []api.Quad {
	lists := [][]api.Node{
		{nd(0, 0, 0, 0, 1)},
		{nd(1, 0, 0, 0, 0)},
		{nd(1, 0, 0, 0, 256)},
		{nd(1, 0, 0, 0, -1)},
		{nd(1, 0, 0, 0, 1), nd(1, 0, 0, 0, 1)},
		{nd(1, 0, 0, 0, 1), nd(2, 1, 0, 0, 0)},
		{nd(1, 0, 0, 0, 1), nd(2, 2, 0, 0, 1)},
		{nd(1, 0, 0, 0, 1), nd(2, 1, 0, 0, 5)},
		{nd(3, 0, 0, 0, 1)},
		{nd(-1, 1, 1, 1, 1)},
		{nd(math.MaxInt, 1, 1, 1, 1)},
		{nd(1, math.MinInt, math.MaxInt, 1, 1)},
	}
	var quads []api.Quad
	for _, l := range lists {
		quads = append(quads, api.Quad{Nodes: l})
	}
	return quads
}

// wrongLimits are limits that may not be.
func wrongLimits() []api.Limits {
	return []api.Limits{{Box: -1}, {Box: 1001}, {Nodes: -1}, {Nodes: 100001}, {Box: -1, Nodes: -1}, {Box: 9, Nodes: math.MaxInt}, {Box: math.MinInt, Nodes: 9}, {Box: 1 << 32}, {Box: math.MaxInt}}
}

// P13.1: rules, quads and limits that may not be: ErrArg, also where the pattern couldn't be expressed.
func TestWrong(t *testing.T) {
	apart := near("x", spot{0, 0, 1}, spot{1001, 0, 1}).pattern(t).Quad
	right := []api.Quad{{}, {Nodes: []api.Node{nd(1, 0, 0, 0, 1)}}, {Nodes: []api.Node{nd(1, 0, 0, 0, 2)}}, apart}
	limits := []api.Limits{{}, {Box: 1}, wide}
	for _, q := range right {
		for _, m := range append(limits, wrongLimits()...) {
			for _, rule := range wrongRules() {
				fails(t, api.Pattern{Rule: rule, Quad: q}, m, api.ErrArg)
			}
		}
		for _, m := range wrongLimits() {
			fails(t, api.Pattern{Rule: "x", Quad: q}, m, api.ErrArg)
		}
	}
	for _, q := range wrongQuads() {
		for _, m := range append(limits, wrongLimits()...) {
			fails(t, api.Pattern{Rule: "x", Quad: q}, m, api.ErrArg)
			fails(t, api.Pattern{Rule: "", Quad: q}, m, api.ErrArg)
		}
	}
}

// P13.1: layer 11's Check's error, of Runs.
func TestCheck(t *testing.T) {
	r := numberer(5)
	for range 300 {
		side := 1 + r.below(12)
		p := near("B3/S23", r.spots(r.below(6), side, 3)...).pattern(t)
		for box := -1; box <= 13; box++ {
			m := api.Limits{Box: box, Nodes: r.below(3)}
			want := pattern.Check(api.Runs, p, m)
			if s, e := runs.Text(p, m); e != want || (e == api.OK) != (s != "") {
				t.Fatalf("%v, %v: got %q, %d, want %d", p, m, s, e, want)
			}
		}
	}
}

// P13.1: a pattern that is handed in stays as it was, its spare room too, and is answered of in the same way again.
func TestLeft(t *testing.T) {
	r := numberer(7)
	for range 200 {
		side := 1 + r.below(30)
		p := near("B3/S23", r.spots(r.below(20), side, 2)...).pattern(t)
		count := len(p.Quad.Nodes)
		nodes := append(slices.Clone(p.Quad.Nodes), nd(9, 9, 9, 9, 9), nd(8, 8, 8, 8, 8))
		kept := slices.Clone(nodes)
		q := api.Pattern{Rule: p.Rule, Quad: api.Quad{Nodes: nodes[:count]}}
		for _, m := range []api.Limits{{}, {Box: 9}, wide, {Box: -1}} {
			s, e := runs.Text(q, m)
			again, f := runs.Text(p, m)
			if s != again || e != f || !slices.Equal(nodes, kept) {
				t.Fatalf("%v, %v: changed", p, m)
			}
		}
	}
}

// P13.1: a grid that is handed in stays as it was, its spare room too; tokens that are answered are the asker's own.
func TestGridLeft(t *testing.T) {
	r := numberer(9)
	for range 200 {
		side := 1 + r.below(9)
		rows := append(rowsOf(r.spots(r.below(20), side, 40), side, side), "spare", "room")
		limbs := []uint32{1, 2, 3, 4}
		kept := slices.Clone(rows)
		g := api.Grid{X: api.Big{Limbs: limbs[:2]}, Y: api.Big{Neg: true, Limbs: limbs[:3]}, Rows: rows[:side]}
		first := runs.Tokens(g)
		want := slices.Clone(first)
		if !slices.Equal(rows, kept) || !slices.Equal(limbs, []uint32{1, 2, 3, 4}) {
			t.Fatalf("%q: changed", kept)
		}
		for i := range first {
			first[i] = "x"
		}
		if again := runs.Tokens(g); !slices.Equal(again, want) {
			t.Fatalf("%q: got %q, then %q", kept, want, again)
		}
	}
}

// body are the lines of tokens of a text.
func body(s string) []string {
	lines := strings.Split(s, "\n")
	return lines[2 : len(lines)-1]
}

// head is how many signs a line's first token has.
func head(line string) int {
	n := strings.IndexFunc(line, func(c rune) bool { return c < '0' || c > '9' }) + 1
	if line[n-1] >= 'p' {
		n++
	}
	return n
}

// P13.2: no line of tokens is longer than 70, and none ends ahead of a token for which it has room.
func TestWidth(t *testing.T) {
	r := numberer(10)
	lengths := map[int]bool{}
	for range 2000 {
		side := 1 + r.below(40)
		s, e := runs.Text(near("x", r.spots(1+r.below(side*side), side, 255)...).pattern(t), wide)
		if e != api.OK {
			t.Fatal(e)
		}
		l := body(s)
		for i, line := range l {
			lengths[len(line)] = true
			if len(line) > 70 || line == "" || i > 0 && len(l[i-1])+head(line) <= 70 {
				t.Fatalf("line %d of %q", i, s)
			}
		}
	}
	for n := 68; n <= 70; n++ {
		if !lengths[n] {
			t.Errorf("no line is %d long", n)
		}
	}
}

// P13.2: around each length of a last line the tokens go on just where one doesn't fit.
func TestWidthEdges(t *testing.T) {
	for _, last := range []string{"\x01", "\x02\x02", "\x19", "\xff\xff"} {
		for n := 1; n <= 400; n++ {
			row := strings.Repeat("\x01\x00", n) + last
			for _, row := range []string{row, "\x00" + row, "\x00\x00" + row, "\x19\x19" + row} {
				d := near("x")
				for i := range len(row) {
					if row[i] != 0 {
						d.on = append(d.on, spot{i, 0, row[i]})
					}
				}
				drawn(t, d, wide)
			}
		}
	}
}

// seen tells of each text by which pattern it was written first.
type seen map[string]api.Pattern

// one asks that no other pattern has been written as the same text.
func (l seen) one(t *testing.T, s string, p api.Pattern) {
	t.Helper()
	if was, ok := l[s]; ok && !pattern.Same(was, p) {
		t.Fatalf("%q is of %v and of %v", s, was, p)
	}
	l[s] = p
}

// P13.2: no two patterns have the same text.
func TestOneWay(t *testing.T) {
	known := seen{}
	states := []byte{0, 1, 2, 255}
	for _, rule := range []string{"a", "b", "a!", "ao"} {
		for _, at := range []spot{{x: 0, y: 0}, {x: 1, y: 0}, {x: 0, y: 1}, {x: -1, y: -1}, {x: -2, y: 10}, {x: 11, y: -1}} {
			for set := range 1 << 12 {
				d := near(rule)
				for i := range 6 {
					if s := states[set>>(2*i)&3]; s != 0 {
						d.on = append(d.on, spot{at.x + i%3, at.y + i/3, s})
					}
				}
				p := d.pattern(t)
				s, e := runs.Text(p, wide)
				if e != api.OK {
					t.Fatalf("%v: %d", d, e)
				}
				known.one(t, s, p)
			}
		}
	}
}

// P13.2: in whatever order cells come, the text is the same.
func TestSameTexts(t *testing.T) {
	r := numberer(11)
	for range 100 {
		d := near("B3/S23", r.spots(1+r.below(30), 1+r.below(20), 9)...)
		back := near("B3/S23", slices.Clone(d.on)...)
		slices.Reverse(back.on)
		a, _ := runs.Text(d.pattern(t), wide)
		if b, _ := runs.Text(back.pattern(t), wide); a != b {
			t.Fatalf("%v: %q and %q", d.on, a, b)
		}
	}
}

// number is a number at the beginning of a text, up to a sign, and what is behind that.
func number(t *testing.T, s, sign string) (*mathbig.Int, string) {
	t.Helper()
	a, b, ok := strings.Cut(s, sign)
	n, right := new(mathbig.Int).SetString(a, 10)
	if !ok || !right {
		t.Fatalf("%q: no number", short(s))
	}
	return n, b
}

// read is the pattern of a text, read sign by sign.
func read(t *testing.T, s string) api.Pattern {
	t.Helper()
	x, rest := number(t, strings.TrimPrefix(s, "#CXRLE Pos="), ",")
	y, rest := number(t, rest, "\n")
	_, rest, _ = strings.Cut(rest, "rule = ")
	rule, rest, _ := strings.Cut(rest, "\n")
	known := map[string]int{"b": 0, "o": 1}
	for state, sign := range signs(false) {
		known[sign] = state
	}
	var l []api.Cell
	column, row, count, sign := 0, 0, 0, ""
	for _, c := range strings.ReplaceAll(rest, "\n", "") {
		sign += string(c)
		state, ok := known[sign]
		switch {
		case c >= '0' && c <= '9':
			count = 10*count + int(c-'0')
			sign = ""
			continue
		case c == '$':
			row, column = row+max(count, 1), 0
		case c == '!':
		case !ok:
			continue
		default:
			for range max(count, 1) {
				l = append(l, api.Cell{X: bigOf(plus(x, column)), Y: bigOf(plus(y, row)), State: byte(state)})
				column++
			}
		}
		count, sign = 0, ""
	}
	q, e := cells.Of(l...)
	if e != api.OK {
		t.Fatalf("%q: %d", short(s), e)
	}
	return api.Pattern{Rule: rule, Quad: q}
}

// P13.2: of each text its pattern can be told again.
func TestComeBack(t *testing.T) {
	r := numberer(13)
	for range 10 {
		side := 1 + r.below(30)
		for _, x := range starts(side) {
			d := drawing{"B3/S23", x, starts(side)[r.below(20)], r.spots(1+r.below(60), side, []int{1, 3, 255}[r.below(3)])}
			p := d.pattern(t)
			s, e := runs.Text(p, wide)
			if e != api.OK {
				t.Fatalf("%v: %d", d, e)
			}
			if !pattern.Same(read(t, s), p) {
				t.Fatalf("%v: %q is another pattern", d, s)
			}
		}
	}
}
