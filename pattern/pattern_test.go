package pattern_test

import (
	"math"
	mathbig "math/big"
	"slices"
	"strings"
	"testing"

	"glider/api"
	"glider/canon"
	"glider/cells"
	"glider/pattern"
)

// The formats, and one more on either side.
const (
	below = api.Plain - 1
	above = api.Macro + 1
)

// wide are the greatest limits.
var wide = api.Limits{Box: 1000, Nodes: 100000}

// whole is a number of math/big.
func whole(n int) *mathbig.Int { return mathbig.NewInt(int64(n)) }

// pow is 2^n, and d.
func pow(n, d int) *mathbig.Int {
	return new(mathbig.Int).Add(new(mathbig.Int).Lsh(whole(1), uint(n)), whole(d))
}

// minus is -n.
func minus(n *mathbig.Int) *mathbig.Int { return new(mathbig.Int).Neg(n) }

// plus is n, and d.
func plus(n *mathbig.Int, d int) *mathbig.Int { return new(mathbig.Int).Add(n, whole(d)) }

// bigOf is the one big number that may be and that n is.
func bigOf(n *mathbig.Int) api.Big {
	x := api.Big{Neg: n.Sign() < 0}
	for n = new(mathbig.Int).Abs(n); n.Sign() > 0; n.Rsh(n, 32) {
		x.Limbs = append(x.Limbs, uint32(n.Uint64()))
	}
	return x
}

// nd is a node, as it is told in words.
func nd(level, a, b, c, d int) api.Node {
	return api.Node{Level: level, Kids: [4]int{a, b, c, d}}
}

// quad are nodes, one behind the other.
func quad(l ...api.Node) api.Quad { return api.Quad{Nodes: l} }

// tower is a node of each level from that leaf up to level, of which each has the one below it as those of its quarters that are told.
func tower(leaf api.Node, level int, quarters ...int) api.Quad {
	l := []api.Node{leaf}
	for len(l) < level {
		x := nd(len(l)+1, 0, 0, 0, 0)
		for _, i := range quarters {
			x.Kids[i] = len(l)
		}
		l = append(l, x)
	}
	return quad(l...)
}

// at is a cell.
func at(x, y *mathbig.Int, state byte) api.Cell {
	return api.Cell{X: bigOf(x), Y: bigOf(y), State: state}
}

// near is a cell near 0, 0.
func near(x, y int, state byte) api.Cell { return at(whole(x), whole(y), state) }

// quadOf is the quad of cells, which may be all.
func quadOf(t *testing.T, l ...api.Cell) api.Quad {
	t.Helper()
	q, e := cells.Of(l...)
	if e != api.OK {
		t.Fatalf("%v: %d", l, e)
	}
	return q
}

// patternOf is a pattern of cells, which may be all.
func patternOf(t *testing.T, l ...api.Cell) api.Pattern {
	t.Helper()
	return api.Pattern{Rule: "B3/S23", Quad: quadOf(t, l...)}
}

// ints are numbers at the edges of what may be, and far away from it.
func ints(edges ...int) []int {
	l := []int{math.MinInt, math.MinInt + 1, -1 << 32, -1 << 31, -1 << 16, -1 << 8, -2, -1, 0, 1, 2, 1 << 8, 1 << 16, 1<<31 - 1, 1 << 31, 1<<32 - 1, 1 << 32, 1<<32 + 1, math.MaxInt - 1, math.MaxInt}
	for _, n := range edges {
		l = append(l, n-1, n, n+1)
	}
	return l
}

// P11.1: Format, of the five ones, of all near them and of many others.
func TestFormat(t *testing.T) {
	formats := []int{1, 2, 3, 4, 5}
	for n := -300; n <= 300; n++ {
		if got := pattern.Format(n); got != slices.Contains(formats, n) {
			t.Errorf("Format(%d): got %v", n, got)
		}
	}
	for _, n := range ints() {
		if got := pattern.Format(n); got != slices.Contains(formats, n) {
			t.Errorf("Format(%d): got %v", n, got)
		}
	}
	for _, n := range formats {
		for _, far := range []int{1 << 8, 1 << 16, 1 << 32, math.MinInt} {
			if pattern.Format(n + far) {
				t.Errorf("Format(%d)", n+far)
			}
		}
	}
}

// P11.1: Fine, of a box and of nodes at their edges and beyond.
func TestFine(t *testing.T) {
	for _, wide := range ints(0, 7, 1000, 100000) {
		for _, nodes := range ints(0, 1000, 99999, 100000) {
			m := api.Limits{Box: wide, Nodes: nodes}
			want := 0 <= wide && wide <= 1000 && 0 <= nodes && nodes <= 100000
			if pattern.Fine(m) != want {
				t.Errorf("Fine(%v): got %v", m, !want)
			}
		}
	}
}

// rules are texts, and whether they are rules.
func rules() map[string]bool {
	return map[string]bool{
		"":                                 false,
		"a":                                true,
		"!":                                true,
		"~":                                true,
		"B3/S23":                           true,
		"B3/S23:T100,200":                  true,
		" ":                                false,
		"B3 S23":                           false,
		"B3/S23\n":                         false,
		"\tB3":                             false,
		"a\x7f":                            false,
		"a\x00":                            false,
		"\xff":                             false,
		"r\u00e9gle":                       false,
		strings.Repeat("r", 39):            true,
		strings.Repeat("r", 40):            true,
		strings.Repeat("r", 41):            false,
		strings.Repeat("r", 40) + "\n":     false,
		strings.Repeat("r", 1<<16+10):      false,
		strings.Repeat("\u00e9", 20):       false,
		" " + strings.Repeat("r", 39):      false,
		strings.Repeat("!", 20) + "~~~~~~": true,
	}
}

// rightQuads are quads that may be.
func rightQuads(t *testing.T) []api.Quad {
	far := minus(pow(1328, 0))
	return []api.Quad{
		{},
		{Nodes: []api.Node{}},
		quad(nd(1, 0, 0, 0, 1)),
		quad(nd(1, 255, 0, 0, 0)),
		quadOf(t, near(0, 0, 1), near(7, -3, 255), near(-1000, 12, 3)),
		quadOf(t, at(far, far, 1), at(pow(1328, -1), whole(5), 9)),
		tower(nd(1, 1, 1, 1, 1), 1329, 0, 1, 2, 3),
	}
}

// wrongQuads are quads that may not be.
func wrongQuads() []api.Quad {
	return []api.Quad{
		quad(nd(0, 0, 0, 0, 1)),
		quad(nd(1, 0, 0, 0, 0)),
		quad(nd(1, 0, 0, 0, 256)),
		quad(nd(1, 0, 0, 0, -1)),
		quad(nd(1, 0, 0, 0, 1), nd(1, 0, 0, 0, 1)),
		quad(nd(1, 0, 0, 0, 1), nd(2, 1, 0, 0, 0)),
		quad(nd(1, 0, 0, 0, 1), nd(2, 2, 0, 0, 1)),
		quad(nd(1, 0, 0, 0, 1), nd(1, 0, 0, 0, 2), nd(2, 2, 0, 0, 1)),
		quad(nd(1, 0, 0, 0, 1), nd(2, 1, 0, 0, 1), nd(2, 1, 0, 1, 1)),
		quad(nd(3, 0, 0, 0, 1)),
		quad(nd(-1, 1, 1, 1, 1)),
		quad(nd(math.MaxInt, 1, 1, 1, 1)),
		quad(nd(1, math.MinInt, math.MaxInt, 1, 1)),
		tower(nd(1, 1, 1, 1, 1), 1330, 0, 1, 2, 3),
	}
}

// P11.1: Right, of each rule with each quad, be they let or not.
func TestRight(t *testing.T) {
	for rule, ok := range rules() {
		for _, q := range rightQuads(t) {
			if pattern.Right(api.Pattern{Rule: rule, Quad: q}) != ok {
				t.Errorf("Right of %q and of a quad that may be: got %v", rule, !ok)
			}
		}
		for i, q := range wrongQuads() {
			if pattern.Right(api.Pattern{Rule: rule, Quad: q}) {
				t.Errorf("Right of %q and of the wrong quad %d", rule, i)
			}
		}
	}
}

// wants asks which formats can express a pattern within limits, Plain first; of Check, too.
func wants(t *testing.T, p api.Pattern, m api.Limits, want [5]bool) {
	t.Helper()
	for i, ok := range want {
		e := api.OK
		if !ok {
			e = api.ErrExpress
		}
		if got := pattern.Express(i+1, p, m); got != ok {
			t.Errorf("Express(%d, of %d nodes, %v): got %v", i+1, len(p.Quad.Nodes), m, got)
		}
		if got := pattern.Check(i+1, p, m); got != e {
			t.Errorf("Check(%d, of %d nodes, %v): got %d, want %d", i+1, len(p.Quad.Nodes), m, got, e)
		}
	}
}

// The formats that can express a pattern.
var (
	allFive   = [5]bool{true, true, true, true, true}
	withRuns  = [5]bool{false, false, false, true, true}
	macroOnly = [5]bool{false, false, false, false, true}
)

// told is what is to be told of a pattern that is wide, high, and of a greatest state.
func told(wide, high, state, most int) [5]bool {
	switch {
	case wide > most || high > most:
		return macroOnly
	case state > 1:
		return withRuns
	}
	return allFive
}

// P11.1: Express and Check, of a pattern without cells: within the least limits, too.
func TestNone(t *testing.T) {
	for _, rule := range []string{"a", strings.Repeat("~", 40)} {
		for _, m := range []api.Limits{{}, {Nodes: 100000}, {Box: 1}, {Box: 1000}, wide} {
			wants(t, api.Pattern{Rule: rule}, m, allFive)
			wants(t, api.Pattern{Rule: rule, Quad: quad()}, m, allFive)
		}
	}
}

// P11.1: Express and Check, of one cell of each state, wherever it is; how many nodes there may be doesn't count.
func TestStates(t *testing.T) {
	far := minus(pow(1328, 0))
	for state := 1; state <= 255; state++ {
		s := byte(state)
		l := []api.Cell{near(0, 0, s), near(-1, 77, s), at(pow(33, 0), minus(pow(64, 3)), s)}
		if state < 3 || state == 255 {
			l = append(l, at(far, pow(1328, -1), s))
		}
		for _, c := range l {
			for _, nodes := range []int{0, 1, 100000} {
				p := patternOf(t, c)
				wants(t, p, api.Limits{Nodes: nodes}, macroOnly)
				wants(t, p, api.Limits{Box: 1, Nodes: nodes}, told(1, 1, state, 1))
				wants(t, p, api.Limits{Box: 1000, Nodes: nodes}, told(1, 1, state, 1000))
			}
		}
	}
}

// P11.1: Express and Check, of two cells so wide or so high apart, around each limit; each of them may be the one of a state above 1.
func TestBoxes(t *testing.T) {
	near := []*mathbig.Int{whole(0), whole(-1), whole(-500), minus(pow(32, 3)), pow(64, -7)}
	far := []*mathbig.Int{minus(pow(1328, 0)), pow(1328, -1001)}
	for _, most := range []int{0, 1, 2, 3, 31, 32, 33, 255, 256, 257, 999, 1000} {
		for size := max(1, most-2); size <= min(most+2, 1001); size++ {
			starts := near
			if most == 1000 || most == 1 {
				starts = slices.Concat(near, far)
			}
			for _, from := range starts {
				m := api.Limits{Box: most, Nodes: 5}
				to := plus(from, size-1)
				for _, states := range [][2]byte{{1, 1}, {1, 2}, {255, 1}} {
					if size == 1 {
						states[0] = states[1]
					}
					state := int(max(states[0], states[1]))
					wants(t, patternOf(t, at(from, whole(5), states[0]), at(to, whole(5), states[1])), m, told(size, 1, state, most))
					wants(t, patternOf(t, at(whole(5), from, states[0]), at(whole(5), to, states[1])), m, told(1, size, state, most))
					wants(t, patternOf(t, at(from, from, states[0]), at(to, to, states[1])), m, told(size, size, state, most))
				}
			}
		}
	}
}

// P11.1: Express and Check, of boxes that are as wide as a multiple of limbs and ints, and of many cells in few nodes.
func TestGreat(t *testing.T) {
	for _, n := range []int{10, 31, 32, 33, 63, 64, 65, 1000, 1327} {
		for _, state := range []byte{1, 2} {
			wants(t, patternOf(t, near(0, 0, state), at(pow(n, 0), whole(0), 1)), wide, macroOnly)
			wants(t, patternOf(t, near(0, 0, 1), at(whole(0), pow(n, 0), state)), wide, macroOnly)
		}
	}
	for level := 1; level <= 1329; level++ {
		if level > 70 && level%97 != 0 && level < 1328 {
			continue
		}
		side := 1001
		if level < 10 {
			side = 1 << level
		}
		for _, m := range []api.Limits{{Box: 1}, {Box: 255}, {Box: 256}, {Box: 511}, {Box: 512}, {Box: 999}, {Box: 1000}} {
			for state := 1; state <= 2; state++ {
				full := api.Pattern{Rule: "a", Quad: tower(nd(1, 1, 1, 1, state), level, 0, 1, 2, 3)}
				wants(t, full, m, told(side, side, state, m.Box))
				corner := api.Pattern{Rule: "a", Quad: tower(nd(1, 0, 0, 0, state), level, 3)}
				wants(t, corner, m, told(1, 1, state, m.Box))
			}
		}
	}
}

// P11.1: Express and Check, where the Kids of nodes above level 1 are great numbers, and states are not.
func TestManyNodes(t *testing.T) {
	var l []api.Cell
	r := numberer(8)
	for y := range 100 {
		for x := range 100 {
			if r.below(3) == 0 || x+y == 0 || x+y == 198 {
				l = append(l, near(x-50, y-50, 1))
			}
		}
	}
	p := patternOf(t, l...)
	if len(p.Quad.Nodes) < 300 {
		t.Fatal("too few nodes for this test")
	}
	wants(t, p, api.Limits{Box: 100}, allFive)
	wants(t, p, api.Limits{Box: 99}, macroOnly)
	wants(t, patternOf(t, append(l, near(1, 1, 2))...), api.Limits{Box: 100}, withRuns)
}

// P11.1: Check, of formats, patterns and limits that may not be: ErrArg, also where the format couldn't express the pattern.
func TestCheckWrong(t *testing.T) {
	cell := quadOf(t, near(0, 0, 2), near(2000, 0, 1))
	right := []api.Pattern{{Rule: "a"}, {Rule: "a", Quad: cell}}
	wrong := []api.Pattern{{}, {Rule: "a b", Quad: cell}, {Quad: cell}, {Rule: strings.Repeat("r", 41), Quad: cell}}
	for _, q := range wrongQuads() {
		wrong = append(wrong, api.Pattern{Rule: "a", Quad: q})
	}
	limits := []api.Limits{{}, wide, {Box: 5, Nodes: 5}}
	beyond := []api.Limits{{Box: -1}, {Box: 1001}, {Nodes: -1}, {Nodes: 100001}, {Box: -1, Nodes: -1}, {Box: 5, Nodes: math.MaxInt}, {Box: math.MinInt, Nodes: 5}, {Box: 1 << 32}}
	formats := []int{below, above, -1, 100, 1 << 32, 1<<32 + 1, math.MinInt + 1, math.MaxInt}
	argued := func(format int, p api.Pattern, m api.Limits) {
		t.Helper()
		if e := pattern.Check(format, p, m); e != api.ErrArg {
			t.Errorf("Check(%d, %v, %v): got %d", format, p, m, e)
		}
	}
	for _, m := range slices.Concat(limits, beyond) {
		for _, p := range slices.Concat(right, wrong) {
			for _, format := range formats {
				argued(format, p, m)
			}
		}
		for _, p := range wrong {
			for format := api.Plain; format <= api.Macro; format++ {
				argued(format, p, m)
			}
		}
	}
	for _, m := range beyond {
		for _, p := range right {
			for format := api.Plain; format <= api.Macro; format++ {
				argued(format, p, m)
			}
		}
	}
}

// P11.1: Same, of each two of many patterns, may they be or not: rules byte by byte, nodes one by one.
func TestSame(t *testing.T) {
	rules := []string{"", "a", "b", "A", "aa", "a ", " a", "a\x00", "B3/S23", "b3/s23"}
	quads := []api.Quad{
		{},
		quad(nd(1, 0, 0, 0, 1)),
		quad(nd(1, 0, 0, 0, 2)),
		quad(nd(1, 1, 0, 0, 0)),
		quad(nd(2, 0, 0, 0, 1)),
		quad(nd(1, 0, 0, 0, 1), nd(1, 0, 0, 0, 1)),
		quad(nd(1, 0, 0, 0, 1), nd(2, 1, 0, 0, 0)),
		quad(nd(2, 1, 0, 0, 0), nd(1, 0, 0, 0, 1)),
		quad(nd(0, 0, 0, 0, 0)),
		quad(nd(-5, 7, 8, 9, math.MaxInt)),
	}
	for i, rule := range rules {
		for k, q := range quads {
			a := api.Pattern{Rule: rule, Quad: q}
			for n, other := range rules {
				for m, r := range quads {
					b := api.Pattern{Rule: strings.Clone(other), Quad: quad(slices.Clone(r.Nodes)...)}
					if got := pattern.Same(a, b); got != (i == n && k == m) {
						t.Errorf("Same(%v, %v): got %v", a, b, got)
					}
				}
			}
		}
	}
	if !pattern.Same(api.Pattern{}, api.Pattern{Quad: api.Quad{Nodes: []api.Node{}}}) {
		t.Error("Same: no nodes are no nodes")
	}
	// The same cells in another way are other nodes.
	q := quadOf(t, near(0, 0, 1))
	l, _ := canon.Grow(q, 5)
	if pattern.Same(api.Pattern{Rule: "a", Quad: q}, api.Pattern{Rule: "a", Quad: quad(l...)}) {
		t.Error("Same: nodes are told one by one")
	}
}

// numberer answers numbers that look like chance, the same ones each time.
type numberer uint32

// below is the next one, from 0 to below n.
func (r *numberer) below(n int) int {
	*r = *r*1664525 + 1013904223
	return int(*r>>8) % n
}

// some are many patterns of a few cells, narrow and wide, of low and great states.
func some(t *testing.T, count int) []api.Pattern {
	var all []api.Pattern
	r := numberer(3)
	for range count {
		var l []api.Cell
		width, states := 1+r.below(40), 1+r.below(3)
		for range r.below(12) {
			l = append(l, near(r.below(width)-width/2, r.below(width)-r.below(width), byte(r.below(states)+r.below(2))))
		}
		all = append(all, patternOf(t, l...))
	}
	return all
}

// P11.2: what a format can express it can within greater limits, too; what any can Runs can, if they bound it, and Macro always.
func TestGreaterLimits(t *testing.T) {
	sizes := []int{0, 1, 2, 3, 5, 8, 13, 21, 34, 55, 89, 1000}
	for _, p := range some(t, 1500) {
		for format := api.Plain; format <= api.Macro; format++ {
			was := false
			for _, size := range sizes {
				now := pattern.Express(format, p, api.Limits{Box: size, Nodes: size})
				if was && !now {
					t.Fatalf("Express(%d, %v) within %d, but not within a lesser limit", format, p, size)
				}
				if now && !pattern.Express(api.Macro, p, api.Limits{}) {
					t.Fatalf("%v: as %d, but not as Macro", p, format)
				}
				was = now
			}
			if format == api.Runs && !was {
				t.Fatalf("%v: not as Runs", p)
			}
		}
	}
}

// P11.2: how many nodes there may be changes nothing of what can be expressed.
func TestNodesLimit(t *testing.T) {
	for _, p := range some(t, 300) {
		for format := api.Plain; format <= api.Macro; format++ {
			for _, size := range []int{0, 1, 7, 20, 1000} {
				want := pattern.Express(format, p, api.Limits{Box: size})
				for _, nodes := range []int{1, 2, 99, 100000} {
					if pattern.Express(format, p, api.Limits{Box: size, Nodes: nodes}) != want {
						t.Fatalf("Express(%d, %v), box %d, nodes %d: not as of 0 nodes", format, p, size, nodes)
					}
				}
			}
		}
	}
}

// P11.1: a pattern that is handed in stays as it was, its spare room too, and is answered of in the same way again.
func TestLeft(t *testing.T) {
	all := some(t, 200)
	for _, q := range wrongQuads() {
		all = append(all, api.Pattern{Rule: "a", Quad: q})
	}
	for _, was := range all {
		nodes := append(slices.Clone(was.Quad.Nodes), nd(9, 9, 9, 9, 9), nd(8, 8, 8, 8, 8))
		kept := slices.Clone(nodes)
		p := api.Pattern{Rule: was.Rule, Quad: quad(nodes[:len(was.Quad.Nodes)]...)}
		for format := below; format <= above; format++ {
			for _, m := range []api.Limits{{}, {Box: 9}, wide, {Box: -1}} {
				first := pattern.Check(format, p, m)
				if pattern.Check(format, was, m) != first {
					t.Fatalf("Check(%d, %v, %v): not the same twice", format, p, m)
				}
			}
		}
		if pattern.Right(p) != pattern.Right(was) || !pattern.Same(p, was) || !slices.Equal(nodes, kept) {
			t.Fatalf("%v: changed", was)
		}
	}
}
