package tree_test

import (
	"fmt"
	"math"
	mathbig "math/big"
	"slices"
	"strconv"
	"strings"
	"testing"

	"glider/api"
	"glider/canon"
	"glider/cells"
	"glider/node"
	"glider/pattern"
	"glider/tree"
)

// Cells may be from -2^far to below 2^far.
const far = 1328

// whole is a number of math/big.
func whole(n int) *mathbig.Int { return mathbig.NewInt(int64(n)) }

// pow is 2^n, and d.
func pow(n, d int) *mathbig.Int {
	return new(mathbig.Int).Add(new(mathbig.Int).Lsh(whole(1), uint(n)), whole(d))
}

// minus is -n.
func minus(n *mathbig.Int) *mathbig.Int { return new(mathbig.Int).Neg(n) }

// plus is n, and d.
func plus(n *mathbig.Int, d int) *mathbig.Int { return new(mathbig.Int).Add(n, whole(d)) }

// bigOf is the one big number that may be and that n is.
func bigOf(n *mathbig.Int) api.Big {
	x := api.Big{Neg: n.Sign() < 0}
	for n = new(mathbig.Int).Abs(n); n.Sign() > 0; n.Rsh(n, 32) {
		x.Limbs = append(x.Limbs, uint32(n.Uint64()))
	}
	return x
}

// nd is a node, as it is told in words.
func nd(level, a, b, c, d int) api.Node {
	return api.Node{Level: level, Kids: [4]int{a, b, c, d}}
}

// cell is a place, and its state.
type cell struct {
	x, y  *mathbig.Int
	state byte
}

// at is a cell near 0, 0.
func at(x, y, state int) cell { return cell{whole(x), whole(y), byte(state)} }

// drawing is a rule, and cells that aren't 0, each place once, told apart from the package under test.
type drawing struct {
	rule string
	on   []cell
}

// near is a drawing of the rule x.
func near(on ...cell) drawing { return drawing{"x", on} }

// pattern is the drawing as a pattern.
func (d drawing) pattern(t *testing.T) api.Pattern {
	t.Helper()
	var l []api.Cell
	for _, c := range d.on {
		l = append(l, api.Cell{X: bigOf(c.x), Y: bigOf(c.y), State: c.state})
	}
	q, e := cells.Of(l...)
	if e != api.OK {
		t.Fatalf("%v: %d", d, e)
	}
	return api.Pattern{Rule: d.rule, Quad: q}
}

// leafOf is the line of a square of eight rows, sign by sign.
func leafOf(rows [8][8]byte) string {
	last := -1
	for y, row := range rows {
		if row != [8]byte{} {
			last = y
		}
	}
	s := ""
	for y := 0; y <= last; y++ {
		width := 0
		for x, state := range rows[y] {
			if state != 0 {
				width = x + 1
			}
		}
		for x := 0; x < width; x++ {
			s += map[bool]string{false: ".", true: "*"}[rows[y][x] != 0]
		}
		s += "$"
	}
	return s
}

// teller tells the lines of squares of cells, each once.
type teller struct {
	two    bool
	lines  []string
	number map[string]int
}

// small is a square of level 3 or less as rows.
func small(on []cell) [8][8]byte {
	var rows [8][8]byte
	for _, c := range on {
		rows[c.y.Int64()][c.x.Int64()] = c.state
	}
	return rows
}

// quarters are the cells of the four quarters of a square of that level, each counted from its own north west on.
func quarters(on []cell, level int) [4][]cell {
	var l [4][]cell
	half := pow(level-1, 0)
	for _, c := range on {
		i := 0
		if c.x.Cmp(half) >= 0 {
			c.x, i = new(mathbig.Int).Sub(c.x, half), i+1
		}
		if c.y.Cmp(half) >= 0 {
			c.y, i = new(mathbig.Int).Sub(c.y, half), i+2
		}
		l[i] = append(l[i], c)
	}
	return l
}

// square is the number of the line of a square of that level, with cells counted from its north west on; 0, if there are none.
func (w *teller) square(on []cell, level int) int {
	if len(on) == 0 {
		return 0
	}
	line := ""
	switch {
	case w.two && level == 3:
		line = leafOf(small(on))
	case level == 1:
		s := small(on)
		line = fmt.Sprint(1, s[0][0], s[0][1], s[1][0], s[1][1])
	default:
		line = strconv.Itoa(level)
		for _, quarter := range quarters(on, level) {
			line += " " + strconv.Itoa(w.square(quarter, level-1))
		}
	}
	if w.number[line] == 0 {
		w.lines = append(w.lines, line)
		w.number[line] = len(w.lines)
	}
	return w.number[line]
}

// text is the drawing's text.
func (d drawing) text() string {
	s := "[M2] (glider)\n#R " + d.rule + "\n"
	if len(d.on) == 0 {
		return s
	}
	w := teller{number: map[string]int{}, two: true}
	for _, c := range d.on {
		w.two = w.two && c.state == 1
	}
	level := 1
	if w.two {
		level = 3
	}
	for _, c := range d.on {
		for _, n := range []*mathbig.Int{c.x, c.y} {
			for n.Cmp(minus(pow(level-1, 0))) < 0 || n.Cmp(pow(level-1, 0)) >= 0 {
				level++
			}
		}
	}
	half := pow(level-1, 0)
	var moved []cell
	for _, c := range d.on {
		moved = append(moved, cell{new(mathbig.Int).Add(c.x, half), new(mathbig.Int).Add(c.y, half), c.state})
	}
	w.square(moved, level)
	return s + strings.Join(append(w.lines, ""), "\n")
}

// short is at most the beginning of a text.
func short(s string) string { return s[:min(len(s), 300)] }

// writes asks for a pattern's text, and for as many lines as that has.
func writes(t *testing.T, p api.Pattern, want string) {
	t.Helper()
	if s, e := tree.Text(p); e != api.OK || s != want {
		t.Errorf("%q and %d nodes: got %q, %d, want %q", p.Rule, len(p.Quad.Nodes), short(s), e, short(want))
	}
	if n := tree.Lines(p.Quad); n != strings.Count(want, "\n")-2 || n > len(p.Quad.Nodes) {
		t.Errorf("%d nodes: %d lines, of %q", len(p.Quad.Nodes), n, short(want))
	}
}

// drawn asks for a drawing's text.
func drawn(t *testing.T, d drawing) {
	t.Helper()
	writes(t, d.pattern(t), d.text())
}

// lined asks for the lines of nodes of a drawing's text.
func lined(t *testing.T, d drawing, lines ...string) {
	t.Helper()
	writes(t, d.pattern(t), "[M2] (glider)\n#R "+d.rule+"\n"+strings.Join(append(lines, ""), "\n"))
}

// fails asks for ErrArg, and for no text beside it.
func fails(t *testing.T, p api.Pattern) {
	t.Helper()
	if s, e := tree.Text(p); e != api.ErrArg || s != "" {
		t.Errorf("%q and %d nodes: got %q, %d", short(p.Rule), len(p.Quad.Nodes), short(s), e)
	}
}

// numberer answers numbers that look like chance, the same ones each time.
type numberer uint32

// below is the next one, from 0 to below n.
func (r *numberer) below(n int) int {
	*r = *r*1664525 + 1013904223
	return int(*r>>8) % n
}

// cells are up to count places in a square from a column and a row on, each once, of states from 1 to top, of few ones mostly.
func (r *numberer) cells(x, y *mathbig.Int, count, side, top int) []cell {
	var on []cell
	known := map[[2]int]bool{}
	for range count {
		at := [2]int{r.below(side), r.below(side)}
		if !known[at] {
			on = append(on, cell{plus(x, at[0]), plus(y, at[1]), byte(1 + r.below(1+r.below(top)))})
		}
		known[at] = true
	}
	return on
}

// starts are columns, or rows, from which a drawing of that side may begin: near 0, at the edges of limbs and of where cells may be.
func starts(side int) []*mathbig.Int {
	l := []*mathbig.Int{minus(pow(far, 0)), pow(far, -side)}
	for _, n := range []int{0, 1, 3, 4, 7, 8, 100, 1 << 31, 1 << 32, 1 << 62, math.MaxInt} {
		l = append(l, whole(n), whole(-n), whole(-n-side/2))
	}
	for _, n := range []int{32, 64, 1000} {
		l = append(l, pow(n, -side/2), minus(pow(n, side/2)), pow(n, 0), minus(pow(n, 0)))
	}
	return l
}

// nodesOf is a loose list of a square of eight rows, with nodes of the same cells put as often as they are met, and empty ones as such, if that is wanted: its last node is the square.
func nodesOf(rows [8][8]byte, empties bool) []api.Node {
	var l []api.Node
	var put func(x, y, level int) int
	put = func(x, y, level int) int {
		if level == 0 {
			return int(rows[y][x])
		}
		half := 1 << (level - 1)
		n := api.Node{Level: level}
		for i := range n.Kids {
			n.Kids[i] = put(x+i%2*half, y+i/2*half, level-1)
		}
		if !empties && n.Kids == [4]int{} && level < 3 {
			return 0
		}
		l = append(l, n)
		return len(l)
	}
	put(0, 0, 3)
	return l
}

// leaves asks for the line of eight rows, however they are kept.
func leaves(t *testing.T, rows [8][8]byte, want string) {
	t.Helper()
	for _, empties := range []bool{false, true} {
		l := nodesOf(rows, empties)
		if !node.Loose(l) {
			t.Fatal("not loose")
		}
		n := len(l)
		// What stands behind it changes nothing.
		for _, l := range [][]api.Node{l, append(l, nd(1, 1, 1, 1, 1), nd(4, n, n, n, 0), nd(5, 0, n+2, 0, 0))} {
			if got := tree.Leaf(l, n); got != want {
				t.Fatalf("%v, %v: got %q, want %q", rows, empties, got, want)
			}
		}
	}
}

// P14.1: a leaf of one cell, in each place, of each state.
func TestLeafOfOne(t *testing.T) {
	for i := range 64 {
		x, y := i%8, i/8
		want := strings.Repeat("$", y) + strings.Repeat(".", x) + "*$"
		for state := 1; state <= 255; state++ {
			var rows [8][8]byte
			rows[y][x] = byte(state)
			leaves(t, rows, want)
		}
	}
}

// P14.1: each row that may be, as each of the eight, alone and beside another one.
func TestLeafRows(t *testing.T) {
	for set := range 256 {
		for y := range 8 {
			var rows [8][8]byte
			for x := range 8 {
				rows[y][x] = byte(set >> x & 1)
			}
			leaves(t, rows, leafOf(rows))
			rows[(y+3)%8][5] = 1
			leaves(t, rows, leafOf(rows))
		}
	}
}

// P14.1: leaves that are written out.
func TestLeafWritten(t *testing.T) {
	var none, full, edge [8][8]byte
	for i := range 8 {
		for k := range 8 {
			full[i][k] = byte(1 + 31*i + k)
		}
		edge[i][7-i] = 255
	}
	leaves(t, none, "")
	leaves(t, full, strings.Repeat("********$", 8))
	leaves(t, edge, ".......*$......*$.....*$....*$...*$..*$.*$*$")
	glider := [8][8]byte{4: {5: 1}, 5: {6: 1}, 6: {4: 1, 5: 1, 6: 1}}
	leaves(t, glider, "$$$$.....*$......*$....***$")
	leaves(t, [8][8]byte{1: {0: 1, 2: 1}, 3: {1: 2}}, "$*.*$$.*$")
}

// P14.1: leaves of many cells.
func TestLeafMany(t *testing.T) {
	r := numberer(1)
	for range 3000 {
		var rows [8][8]byte
		for range r.below(70) {
			rows[r.below(8)][r.below(8)] = byte(r.below(256))
		}
		leaves(t, rows, leafOf(rows))
	}
}

// P14.1: the node 0, in whatever list.
func TestLeafOfNone(t *testing.T) {
	for _, l := range [][]api.Node{nil, {}, {nd(1, 1, 1, 1, 1)}, {nd(3, 0, 0, 0, 0)}, nodesOf([8][8]byte{{1}}, true)} {
		if s := tree.Leaf(l, 0); s != "" {
			t.Errorf("%v: %q", l, s)
		}
	}
}

// P14.1: quarters that are shared, and leaves that are shared.
func TestLeafShared(t *testing.T) {
	l := []api.Node{nd(1, 0, 3, 0, 0), nd(2, 1, 0, 1, 1), nd(3, 2, 2, 0, 2), nd(3, 0, 0, 2, 0), nd(3, 0, 0, 0, 0)}
	for n, want := range map[int]string{3: ".*...*$$.*.*.*.*$$.....*$$.....*.*$", 4: "$$$$.*$$.*.*$", 5: ""} {
		if s := tree.Leaf(l, n); s != want {
			t.Errorf("%d: got %q, want %q", n, s, want)
		}
	}
}

// P14.1: texts that are written out.
func TestWritten(t *testing.T) {
	lined(t, near())
	lined(t, near(at(0, 0, 1)), "$$$$....*$")
	lined(t, near(at(-1, -1, 1)), "$$$...*$")
	lined(t, near(at(1, 0, 1), at(2, 1, 1), at(0, 2, 1), at(1, 2, 1), at(2, 2, 1)), "$$$$.....*$......*$....***$")
	lined(t, near(at(-4, -4, 1)), "*$")
	lined(t, near(at(3, 3, 1)), "$$$$$$$.......*$")
	lined(t, near(at(4, 3, 1)), "$$$....*$", "4 0 0 0 1")
	lined(t, near(at(-5, 0, 1)), "...*$", "4 0 0 1 0")
	lined(t, near(at(-8, 0, 1), at(0, 0, 1), at(1, 1, 1)), "*$", "*$.*$", "4 0 0 1 2")
	lined(t, near(at(-8, -8, 1), at(0, -8, 1), at(-8, 0, 1), at(0, 0, 1)), "*$", "4 1 1 1 1")
	lined(t, near(at(16, -16, 1)), "*$", "4 1 0 0 0", "5 0 0 0 2", "6 0 3 0 0")
	lined(t, near(at(0, 0, 2)), "1 0 0 0 2")
	lined(t, near(at(-1, -1, 255), at(0, -1, 1), at(-1, 0, 25)), "1 255 1 25 0")
	lined(t, near(at(-2, 0, 9), at(0, 0, 9), at(1, 1, 255)), "1 9 0 0 0", "1 9 0 0 255", "2 0 0 1 2")
	lined(t, near(at(-2, -2, 7), at(1, 1, 1)), "1 7 0 0 0", "1 0 0 0 1", "2 1 0 0 2")
	lined(t, near(at(4, 0, 2)), "1 2 0 0 0", "2 1 0 0 0", "3 0 2 0 0", "4 0 0 0 3")
	lined(t, near(at(0, 0, 1), at(9, 9, 1), at(-9, 9, 2)), "1 0 0 0 2", "2 0 1 0 0", "3 0 2 0 0", "4 0 0 3 0", "1 1 0 0 0", "2 5 0 0 0", "3 6 0 0 0",
		"1 0 0 0 1", "2 8 0 0 0", "3 9 0 0 0", "4 7 0 0 10", "5 0 0 4 11")
}

// P14.1: a pattern without cells.
func TestNone(t *testing.T) {
	for _, rule := range []string{"x", "B3/S23", strings.Repeat("~", 40)} {
		for _, q := range []api.Quad{{}, {Nodes: []api.Node{}}} {
			writes(t, api.Pattern{Rule: rule, Quad: q}, "[M2] (glider)\n#R "+rule+"\n")
		}
	}
}

// P14.1: rules are written just as they are, whatever signs they have.
func TestRules(t *testing.T) {
	rules := []string{"!", "#R", "[M2]", "(glider)", "$", "%s", "\\n", strings.Repeat("r", 40)}
	for c := byte(33); c <= 126; c++ {
		rules = append(rules, string([]byte{c}), "a"+string([]byte{c})+"b")
	}
	for _, rule := range rules {
		drawn(t, drawing{rule: rule})
		drawn(t, drawing{rule, []cell{at(3, -4, 1), at(5, -2, 1)}})
		drawn(t, drawing{rule, []cell{at(3, -4, 1), at(5, -2, 2)}})
	}
}

// P14.1: all ways in which four by four cells around the middle may be of two states, and those in which two by three may be of more.
func TestSmall(t *testing.T) {
	for set := range 1 << 16 {
		var on []cell
		for i := range 16 {
			if set>>i&1 == 1 {
				on = append(on, at(i%4-2, i/4-2, 1))
			}
		}
		drawn(t, near(on...))
	}
	states := []byte{0, 1, 2, 255}
	for set := range 1 << 12 {
		var on []cell
		for i := range 6 {
			if s := states[set>>(2*i)&3]; s != 0 {
				on = append(on, at(i%2-1, i/2-1, int(s)))
			}
		}
		drawn(t, near(on...))
	}
}

// P14.1: each state alone, and beside others; one far from all others changes how they are told.
func TestStates(t *testing.T) {
	for state := 1; state <= 255; state++ {
		drawn(t, near(at(-1, -1, state)))
		drawn(t, near(at(-1, -1, 1), at(2, 1, state)))
		drawn(t, near(at(-40, -1, state), at(0, -1, state), at(2, 70, 1)))
		drawn(t, near(at(-4, -4, 1), at(3, 3, 1), cell{pow(70, 0), minus(pow(60, 0)), byte(state)}))
	}
}

// P14.1: a cell at each edge of each level.
func TestEdges(t *testing.T) {
	for n := range far {
		for _, x := range []*mathbig.Int{pow(n, -1), minus(pow(n, 0)), pow(n, 0), minus(pow(n, 1))} {
			if n%97 > 3 && n > 40 {
				continue
			}
			drawn(t, near(cell{x, whole(0), 1}))
			drawn(t, near(cell{whole(-1), x, 1}))
			drawn(t, near(cell{x, x, 3}))
			drawn(t, near(cell{x, plus(x, -1), 1}, cell{whole(1 << 40), minus(x), 1}))
		}
	}
	last := pow(far, -1)
	drawn(t, near(cell{last, last, 1}))
	drawn(t, near(cell{minus(pow(far, 0)), last, 1}, cell{last, minus(pow(far, 0)), 1}))
	drawn(t, near(cell{minus(pow(far, 0)), minus(pow(far, 0)), 200}, cell{last, last, 1}))
}

// P14.1: many drawings, narrow and wide, dense and thin, wherever they are.
func TestMany(t *testing.T) {
	r := numberer(2)
	for range 2 {
		for _, side := range []int{1, 2, 5, 17, 40} {
			l := starts(side)
			for _, x := range l {
				y := l[r.below(len(l))]
				drawn(t, drawing{"B3/S23", r.cells(x, y, 1+r.below(2*side), side, 1)})
				drawn(t, drawing{"B2/S", r.cells(y, x, 1+r.below(side*side), side, 255)})
			}
		}
	}
}

// P14.1: drawings of some size, of two states and of more.
func TestGreat(t *testing.T) {
	r := numberer(3)
	for _, top := range []int{1, 2, 255} {
		drawn(t, near(r.cells(whole(-150), whole(-90), 20000, 250, top)...))
		drawn(t, near(r.cells(minus(pow(64, 100)), whole(-100), 5000, 200, top)...))
	}
}

// full is a quad all whose cells are of one state.
func full(level, state int) api.Quad {
	l := []api.Node{nd(1, state, state, state, state)}
	for n := 2; n <= level; n++ {
		l = append(l, nd(n, n-1, n-1, n-1, n-1))
	}
	return api.Quad{Nodes: l}
}

// P14.1: squares of more cells than could be told one by one, up to the greatest level.
func TestFull(t *testing.T) {
	for level := 3; level <= 1329; level++ {
		if level > 70 && level < 1320 && level%100 != 0 {
			continue
		}
		two := "[M2] (glider)\n#R x\n" + strings.Repeat("********$", 8) + "\n"
		more := "[M2] (glider)\n#R x\n1 2 2 2 2\n2 1 1 1 1\n3 2 2 2 2\n"
		for n := 4; n <= level; n++ {
			two += fmt.Sprintln(n, n-3, n-3, n-3, n-3)
			more += fmt.Sprintln(n, n-1, n-1, n-1, n-1)
		}
		writes(t, api.Pattern{Rule: "x", Quad: full(level, 1)}, two)
		writes(t, api.Pattern{Rule: "x", Quad: full(level, 2)}, more)
	}
	writes(t, api.Pattern{Rule: "x", Quad: full(1, 1)}, "[M2] (glider)\n#R x\n$$$...**$...**$\n")
	writes(t, api.Pattern{Rule: "x", Quad: full(2, 1)}, "[M2] (glider)\n#R x\n$$..****$..****$..****$..****$\n")
}

// P14.1: nodes that are shared within and across levels.
func TestShared(t *testing.T) {
	l := []api.Node{nd(1, 1, 0, 0, 0), nd(2, 0, 1, 1, 0), nd(3, 2, 0, 0, 2), nd(4, 3, 3, 0, 3), nd(3, 2, 0, 0, 0), nd(4, 5, 3, 5, 0), nd(5, 4, 6, 4, 4)}
	q := api.Quad{Nodes: l}
	if !node.Right(q) {
		t.Fatal("not right")
	}
	writes(t, api.Pattern{Rule: "x", Quad: q}, "[M2] (glider)\n#R x\n..*$$*$$......*$$....*$\n4 1 1 0 1\n..*$$*$\n4 3 1 3 0\n5 2 4 2 2\n")
	l = slices.Clone(l)
	l[0] = nd(1, 1, 0, 0, 2)
	writes(t, api.Pattern{Rule: "x", Quad: api.Quad{Nodes: l}}, "[M2] (glider)\n#R x\n1 1 0 0 2\n2 0 1 1 0\n3 2 0 0 2\n4 3 3 0 3\n3 2 0 0 0\n4 5 3 5 0\n5 4 6 4 4\n")
}

// P14.1: rules and quads that may not be.
func TestWrong(t *testing.T) {
	rules := []string{"", " ", "B3 S23", "B3/S23\n", "\tB3", "a\x7f", "a\x00", "\xff", "r\u00e9gle", strings.Repeat("r", 41), strings.Repeat("r", 1<<16+10)}
	apart := near(at(0, 0, 1), at(1001, 0, 1)).pattern(t).Quad
	for _, rule := range rules {
		for _, q := range []api.Quad{{}, {Nodes: []api.Node{nd(1, 0, 0, 0, 1)}}, full(1329, 1), apart} {
			fails(t, api.Pattern{Rule: rule, Quad: q})
		}
	}
	for _, l := range [][]api.Node{
		{nd(0, 0, 0, 0, 1)},
		{nd(1, 0, 0, 0, 0)},
		{nd(1, 0, 0, 0, 256)},
		{nd(1, 0, 0, 0, -1)},
		{nd(1, 0, 0, 0, 1), nd(1, 0, 0, 0, 1)},
		{nd(1, 0, 0, 0, 1), nd(2, 1, 0, 0, 0)},
		{nd(1, 0, 0, 0, 1), nd(2, 2, 0, 0, 1)},
		{nd(1, 0, 0, 0, 1), nd(2, 1, 0, 0, 5)},
		{nd(1, 0, 0, 1, 0), nd(1, 0, 0, 0, 1), nd(2, 2, 0, 0, 1)},
		{nd(3, 0, 0, 0, 1)},
		{nd(3, 0, 0, 0, 0)},
		{nd(-1, 1, 1, 1, 1)},
		{nd(math.MaxInt, 1, 1, 1, 1)},
		{nd(1, math.MinInt, math.MaxInt, 1, 1)},
		nodesOf([8][8]byte{{1}, 7: {7: 1}}, true),
		append(full(1329, 1).Nodes, nd(1330, 1329, 1329, 1329, 1329)),
	} {
		fails(t, api.Pattern{Rule: "x", Quad: api.Quad{Nodes: l}})
		fails(t, api.Pattern{Quad: api.Quad{Nodes: l}})
	}
}

// P14.1: what is handed in stays as it was, its spare room too, and is answered of in the same way again.
func TestLeft(t *testing.T) {
	r := numberer(7)
	for range 500 {
		p := near(r.cells(whole(-r.below(20)), whole(-r.below(20)), r.below(20), 1+r.below(30), 1+r.below(2))...).pattern(t)
		count := len(p.Quad.Nodes)
		nodes := append(slices.Clone(p.Quad.Nodes), nd(9, 9, 9, 9, 9), nd(8, 8, 8, 8, 8), nd(7, 7, 7, 7, 7), nd(6, 6, 6, 6, 6), nd(5, 5, 5, 5, 5), nd(4, 4, 4, 4, 4))
		kept := slices.Clone(nodes)
		q := api.Pattern{Rule: p.Rule, Quad: api.Quad{Nodes: nodes[:count]}}
		s, e := tree.Text(q)
		again, f := tree.Text(p)
		if s != again || e != f || tree.Lines(q.Quad) != tree.Lines(p.Quad) || !slices.Equal(nodes, kept) {
			t.Fatalf("%v: changed", p)
		}
		l, n := canon.Grow(p.Quad, 3)
		if len(p.Quad.Nodes) == 0 || l[n-1].Level != 3 {
			continue
		}
		kept = slices.Clone(l)
		if tree.Leaf(l, n) != tree.Leaf(kept, n) || !slices.Equal(l, kept) {
			t.Fatalf("%v: changed", l)
		}
	}
}

// seen tells of each text by which pattern it was written first.
type seen map[string]api.Pattern

// one asks that no other pattern has been written as the same text.
func (l seen) one(t *testing.T, p api.Pattern) {
	t.Helper()
	s, e := tree.Text(p)
	if e != api.OK {
		t.Fatalf("%v: %d", p, e)
	}
	if was, ok := l[s]; ok && !pattern.Same(was, p) {
		t.Fatalf("%q is of %v and of %v", s, was, p)
	}
	l[s] = p
}

// P14.2: no two patterns have the same text.
func TestOneWay(t *testing.T) {
	known := seen{}
	states := []byte{0, 1, 2, 255}
	for _, rule := range []string{"a", "b", "a$", "1"} {
		for _, from := range [][2]int{{0, 0}, {1, 0}, {0, 1}, {-1, -1}, {-2, 10}, {11, -1}, {-5, -5}} {
			for set := range 1 << 12 {
				d := drawing{rule: rule}
				for i := range 6 {
					if s := states[set>>(2*i)&3]; s != 0 {
						d.on = append(d.on, at(from[0]+i%3, from[1]+i/3, int(s)))
					}
				}
				known.one(t, d.pattern(t))
			}
		}
	}
}

// P14.2: in whatever order cells come, the text is the same.
func TestSameTexts(t *testing.T) {
	r := numberer(11)
	for range 200 {
		d := near(r.cells(whole(-9), whole(-7), 1+r.below(30), 1+r.below(20), 1+r.below(3))...)
		back := near(slices.Clone(d.on)...)
		slices.Reverse(back.on)
		a, _ := tree.Text(d.pattern(t))
		if b, _ := tree.Text(back.pattern(t)); a != b {
			t.Fatalf("%v: %q and %q", d.on, a, b)
		}
	}
}

// loose is a loose list that grows by the lines of a text.
type loose struct {
	nodes   []api.Node
	numbers []int
}

// leaf puts the nodes of a leaf.
func (l *loose) leaf(line string) {
	var rows [8][8]byte
	for y, row := range strings.Split(line, "$") {
		for x, sign := range row {
			if sign == '*' {
				rows[y][x] = 1
			}
		}
	}
	base := len(l.nodes)
	for _, x := range nodesOf(rows, false) {
		if x.Level > 1 {
			for i, kid := range x.Kids {
				if kid != 0 {
					x.Kids[i] = kid + base
				}
			}
		}
		l.nodes = append(l.nodes, x)
	}
}

// branch puts the node of another line.
func (l *loose) branch(t *testing.T, line string) {
	var x api.Node
	if n, e := fmt.Sscanf(line, "%d %d %d %d %d", &x.Level, &x.Kids[0], &x.Kids[1], &x.Kids[2], &x.Kids[3]); n != 5 || e != nil {
		t.Fatalf("%q: %v", line, e)
	}
	if x.Level > 1 {
		for i, kid := range x.Kids {
			if kid != 0 {
				x.Kids[i] = l.numbers[kid-1]
			}
		}
	}
	l.nodes = append(l.nodes, x)
}

// read is the pattern of a text, read line by line.
func read(t *testing.T, s string) api.Pattern {
	t.Helper()
	lines := strings.Split(strings.TrimSuffix(s, "\n"), "\n")
	var l loose
	for _, line := range lines[2:] {
		if strings.Contains(line, "$") {
			l.leaf(line)
		} else {
			l.branch(t, line)
		}
		l.numbers = append(l.numbers, len(l.nodes))
	}
	q, e := canon.Of(l.nodes, len(l.nodes))
	if e != api.OK {
		t.Fatalf("%q: %d", short(s), e)
	}
	return api.Pattern{Rule: strings.TrimPrefix(lines[1], "#R "), Quad: q}
}

// P14.2: of each text its pattern can be told again, and there are no more lines than nodes.
func TestComeBack(t *testing.T) {
	r := numberer(13)
	for range 10 {
		side := 1 + r.below(30)
		l := starts(side)
		for _, x := range l {
			d := drawing{"B3/S23", r.cells(x, l[r.below(len(l))], 1+r.below(60), side, []int{1, 3, 255}[r.below(3)])}
			p := d.pattern(t)
			s, e := tree.Text(p)
			if e != api.OK {
				t.Fatalf("%v: %d", d, e)
			}
			if !pattern.Same(read(t, s), p) {
				t.Fatalf("%v: %q is another pattern", d, s)
			}
			if n := tree.Lines(p.Quad); n > len(p.Quad.Nodes) || n != strings.Count(s, "\n")-2 {
				t.Fatalf("%v: %d lines", d, n)
			}
		}
	}
}
