package canon_test

import (
	"math"
	"slices"
	"testing"

	"glider/api"
	"glider/canon"
	"glider/node"
)

// nd is a node, as it is told in words.
func nd(level, a, b, c, d int) api.Node {
	return api.Node{Level: level, Kids: [4]int{a, b, c, d}}
}

// list are nodes, one behind the other.
func list(l ...api.Node) []api.Node { return l }

// place is a column and a row, counted from a node's middle on.
type place struct{ x, y int }

// cells are the states that aren't 0 of the node n, by their places, told apart from the package under test.
func cells(l []api.Node, n int) map[place]int {
	got := map[place]int{}
	var put func(n, x, y int)
	put = func(n, x, y int) {
		if n == 0 {
			return
		}
		half := 1 << l[n-1].Level / 2
		for i, kid := range l[n-1].Kids {
			kx, ky := x+i%2*half, y+i/2*half
			if l[n-1].Level > 1 {
				put(kid, kx, ky)
			} else if kid != 0 {
				got[place{kx, ky}] = kid
			}
		}
	}
	if n != 0 {
		half := 1 << l[n-1].Level / 2
		put(n, -half, -half)
	}
	return got
}

// sameCells tells whether the states are the same, at the same places.
func sameCells(a, b map[place]int) bool {
	if len(a) != len(b) {
		return false
	}
	for at, state := range a {
		if b[at] != state {
			return false
		}
	}
	return true
}

// square are the nodes of a level of cells around the middle, each just once, none empty, in the order in which they come to an end.
func square(all map[place]int, level int) []api.Node {
	var l []api.Node
	var add func(x, y, level int) int
	add = func(x, y, level int) int {
		made := api.Node{Level: level}
		half := 1 << level / 2
		for i := range 4 {
			kx, ky := x+i%2*half, y+i/2*half
			if level == 1 {
				made.Kids[i] = all[place{kx, ky}]
			} else {
				made.Kids[i] = add(kx, ky, level-1)
			}
		}
		if made.Kids == [4]int{} {
			return 0
		}
		if at := slices.Index(l, made); at >= 0 {
			return at + 1
		}
		l = append(l, made)
		return len(l)
	}
	half := 1 << level / 2
	add(-half, -half, level)
	return l
}

// quad are the nodes of the one quad of cells: of the least level whose square has them all.
func quad(all map[place]int) []api.Node {
	level, half := 1, 1
	for at := range all {
		for at.x < -half || at.x >= half || at.y < -half || at.y >= half {
			level, half = level+1, half*2
		}
	}
	return square(all, level)
}

// numberer answers numbers that look like chance, the same ones each time.
type numberer uint32

// below is the next one, from 0 to below n.
func (r *numberer) below(n int) int {
	*r = *r*1664525 + 1013904223
	return int(*r>>8) % n
}

// some is a loose list of up to most nodes.
func (r *numberer) some(most int) []api.Node {
	var l []api.Node
	for range r.below(most) + 1 {
		x := api.Node{Level: r.below(5) + 1}
		for i := range x.Kids {
			if r.below(2) == 0 {
				continue
			}
			if x.Level == 1 {
				x.Kids[i] = r.below(3)
				continue
			}
			for n, y := range l {
				if y.Level == x.Level-1 && r.below(2) == 0 {
					x.Kids[i] = n + 1
				}
			}
		}
		l = append(l, x)
	}
	return l
}

// looseOnes are loose lists of many kinds.
func looseOnes() [][]api.Node {
	r := numberer(1)
	all := [][]api.Node{nil, {}}
	for most := 1; most <= 24; most++ {
		for range 300 {
			all = append(all, r.some(most))
		}
	}
	return all
}

// quadOnes are quads' nodes of many kinds: cells spread thin and thick, alike and unlike, of levels from 1 to 5.
func quadOnes() [][]api.Node {
	r := numberer(7)
	all := [][]api.Node{nil}
	for level := 1; level <= 5; level++ {
		half := 1 << level / 2
		for _, rare := range []int{1, 2, 5, 20, 100, 1000} {
			for _, states := range []int{1, 2, 255} {
				some := map[place]int{}
				for y := -half; y < half; y++ {
					for x := -half; x < half; x++ {
						if r.below(rare) == 0 {
							some[place{x, y}] = r.below(states) + 1
						}
					}
				}
				all = append(all, quad(some))
			}
		}
	}
	return all
}

// wantOf asks for a node's quad.
func wantOf(t *testing.T, l []api.Node, n int, want []api.Node) {
	t.Helper()
	q, e := canon.Of(l, n)
	if e != api.OK || !slices.Equal(q.Nodes, want) {
		t.Errorf("Of(%v, %d): got %v, %d, want %v", l, n, q.Nodes, e, want)
	}
	if !node.Right(q) {
		t.Errorf("Of(%v, %d): %v may not be", l, n, q.Nodes)
	}
}

// wantNone asks for a node's quad where there is none.
func wantNone(t *testing.T, l []api.Node, n int) {
	t.Helper()
	if q, e := canon.Of(l, n); e != api.ErrArg || len(q.Nodes) != 0 {
		t.Errorf("Of(%v, %d): got %v, %d", l, n, q.Nodes, e)
	}
}

// wantShrink asks for the number of a node that isn't hollow, and answers it with its list.
func wantShrink(t *testing.T, l []api.Node, n int) ([]api.Node, int) {
	t.Helper()
	s, k := canon.Shrink(l, n)
	if len(s) < len(l) || !slices.Equal(s[:len(l)], l) || !node.Loose(s) || k < 0 || k > len(s) {
		t.Fatalf("Shrink(%v, %d): got %v, %d", l, n, s, k)
	}
	switch {
	case node.Empty(l, n):
		if k != 0 {
			t.Errorf("Shrink(%v, %d): empty, got %d", l, n, k)
		}
	case !node.Hollow(l, n):
		if k != n {
			t.Errorf("Shrink(%v, %d): not hollow, got %d", l, n, k)
		}
	case node.Hollow(s, k):
		t.Errorf("Shrink(%v, %d): got %v, %d, hollow", l, n, s, k)
	}
	return s, k
}

// wantGrow asks for a node of that level, and answers its list and number; what is told of those added is held to be so.
func wantGrow(t *testing.T, l []api.Node, level int) ([]api.Node, int) {
	t.Helper()
	g, n := canon.Grow(api.Quad{Nodes: l}, level)
	was := node.Level(api.Quad{Nodes: l})
	if len(l) == 0 || level > api.MaxLevel || level <= was {
		if !slices.Equal(g, l) || n != len(l) {
			t.Errorf("Grow(%v, %d): got %v, %d", l, level, g, n)
		}
		return g, n
	}
	if len(g) < len(l) || !slices.Equal(g[:len(l)], l) || !node.Loose(g) || n < 1 || n > len(g) || g[n-1].Level != level {
		t.Fatalf("Grow(%v, %d): got %v, %d", l, level, g, n)
	}
	wantAdded(t, g[len(l):], was, level)
	return g, n
}

// wantAdded asks whether for each level above was four nodes of the level below it were added at most, and one of it.
func wantAdded(t *testing.T, added []api.Node, was, level int) {
	t.Helper()
	counts := map[int]int{}
	for _, x := range added {
		counts[x.Level]++
	}
	if counts[was] > 4 || counts[level] != 1 {
		t.Errorf("from level %d to %d: added %v", was, level, added)
	}
	for n, count := range counts {
		if n < was || n > level || count > 5 {
			t.Errorf("from level %d to %d: added %d of level %d", was, level, count, n)
		}
	}
}

// P6.1: Of, as told in words.
func TestOf(t *testing.T) {
	wantOf(t, nil, 0, nil)
	wantOf(t, list(), 0, nil)
	wantOf(t, list(nd(1, 1, 2, 3, 4)), 0, nil)
	wantOf(t, list(nd(1, 1, 2, 3, 4)), 1, list(nd(1, 1, 2, 3, 4)))
	wantOf(t, list(nd(1, 0, 0, 0, 255)), 1, list(nd(1, 0, 0, 0, 255)))
	wantOf(t, list(nd(1, 0, 0, 0, 0)), 1, nil)
	wantOf(t, list(nd(1329, 0, 0, 0, 0)), 1, nil)
	// The one cell is the nearest one to the middle, in each of the quarters.
	for i := range 4 {
		leaf, wide, want := nd(1, 0, 0, 0, 0), nd(2, 0, 0, 0, 0), nd(1, 0, 0, 0, 0)
		leaf.Kids[3-i], wide.Kids[i], want.Kids[i] = 7, 1, 7
		wantOf(t, list(leaf, wide), 2, list(want))
		// It is any other one.
		for at := range 3 {
			leaf = nd(1, 0, 0, 0, 0)
			leaf.Kids[(4-i+at)%4] = 7
			wantOf(t, list(leaf, wide), 2, list(leaf, wide))
		}
	}
	// An order that isn't the one in which they come to an end, nodes twice, empty ones, others.
	a, b, none := nd(1, 1, 0, 0, 0), nd(1, 2, 0, 0, 0), nd(1, 0, 0, 0, 0)
	wantOf(t, list(b, a, nd(2, 2, 1, 0, 0)), 3, list(a, b, nd(2, 1, 2, 0, 0)))
	wantOf(t, list(a, a, nd(2, 1, 2, 2, 1)), 3, list(a, nd(2, 1, 1, 1, 1)))
	wantOf(t, list(none, a, none, nd(2, 2, 1, 3, 0)), 4, list(a, nd(2, 1, 0, 0, 0)))
	wantOf(t, list(b, a, nd(2, 2, 0, 0, 0), nd(2, 1, 0, 0, 0)), 3, list(a, nd(2, 1, 0, 0, 0)))
	wantOf(t, list(b, a, nd(2, 2, 0, 0, 0), nd(2, 1, 0, 0, 0)), 4, list(b, nd(2, 1, 0, 0, 0)))
	wantOf(t, list(b, a, nd(2, 2, 0, 0, 0), nd(2, 1, 0, 0, 0)), 1, list(b))
	// Two that are the same by their quarters, which are the same, or empty.
	wantOf(t, list(a, a, none, nd(2, 1, 3, 0, 0), nd(2, 2, 0, 3, 0), nd(3, 4, 5, 0, 0)), 6, list(a, nd(2, 1, 0, 0, 0), nd(3, 2, 2, 0, 0)))
	wantOf(t, list(none, nd(2, 1, 1, 0, 0), a, nd(2, 3, 0, 0, 0), nd(3, 2, 4, 2, 2)), 5, list(a, nd(2, 1, 0, 0, 0), nd(3, 0, 2, 0, 0)))
	// Empty ones all around; hollow, or, within a greater one, not.
	d := nd(1, 0, 0, 0, 9)
	wantOf(t, list(none, d, nd(2, 1, 1, 1, 2), nd(2, 1, 1, 1, 1), nd(3, 3, 4, 4, 4), nd(4, 5, 0, 0, 0)), 6, list(d, nd(2, 0, 0, 0, 1), nd(3, 2, 0, 0, 0), nd(4, 3, 0, 0, 0)))
	wantOf(t, list(none, d, nd(2, 1, 1, 1, 2), nd(2, 1, 1, 1, 1), nd(3, 3, 4, 4, 4)), 5, list(nd(1, 9, 0, 0, 0)))
}

// P6.1: Of, where it isn't asked of a loose list and one of its numbers.
func TestOfWrong(t *testing.T) {
	a := nd(1, 1, 0, 0, 0)
	for _, n := range []int{-1, -2, 3, 4, math.MinInt, math.MaxInt, 1 << 32, 1<<32 + 1, -1 << 32} {
		wantNone(t, list(a, nd(2, 1, 0, 0, 0)), n)
		wantNone(t, list(nd(0, 0, 0, 0, 0), a), n)
	}
	for _, n := range []int{-1, 1, 2} {
		wantNone(t, nil, n)
		wantNone(t, list(), n)
	}
	for _, wrong := range list(
		nd(0, 0, 0, 0, 0), nd(-1, 0, 0, 0, 0), nd(1330, 0, 0, 0, 0), nd(1, 0, 0, 0, 256), nd(1, -1, 0, 0, 0), nd(2, 0, 0, 2, 0), nd(2, 0, 3, 0, 0), nd(2, -1, 0, 0, 0), nd(3, 1, 0, 0, 0),
	) {
		for n := range 4 {
			wantNone(t, list(a, wrong), n)
			wantNone(t, list(a, wrong, a), n)
		}
	}
	// All that's wrong may be far from the node that is asked for.
	wantNone(t, list(nd(1, 256, 0, 0, 0), a), 2)
	wantNone(t, list(nd(1, 256, 0, 0, 0), a), 0)
	wantOf(t, list(nd(1, 255, 0, 0, 0), a), 2, list(a))
}

// P6.1: Of and Shrink, of each node of each list of up to three nodes out of a few.
func TestEachSmallList(t *testing.T) {
	var grow func(l []api.Node)
	grow = func(l []api.Node) {
		for n := range len(l) + 1 {
			all := cells(l, n)
			wantOf(t, l, n, quad(all))
			s, k := wantShrink(t, l, n)
			if !sameCells(cells(s, k), all) {
				t.Errorf("Shrink(%v, %d): got %v, %d", l, n, s, k)
			}
		}
		if len(l) == 3 {
			return
		}
		for _, leaf := range list(nd(1, 0, 0, 0, 0), nd(1, 1, 0, 0, 0), nd(1, 0, 0, 0, 1), nd(1, 0, 1, 2, 0)) {
			grow(append(slices.Clone(l), leaf))
		}
		count := len(l) + 1
		for k := range count * count * count * count {
			for level := 2; level <= 3; level++ {
				x := nd(level, k%count, k/count%count, k/count/count%count, k/count/count/count)
				if more := append(slices.Clone(l), x); node.Loose(more) {
					grow(more)
				}
			}
		}
	}
	grow(nil)
}

// P6.1: Of and Shrink, of each node of many longer lists.
func TestManyLists(t *testing.T) {
	for _, l := range looseOnes() {
		for n := range len(l) + 1 {
			all := cells(l, n)
			wantOf(t, l, n, quad(all))
			s, k := wantShrink(t, l, n)
			if !sameCells(cells(s, k), all) {
				t.Errorf("Shrink(%v, %d): got %v, %d", l, n, s, k)
			}
		}
	}
}

// P6.1: Of and Shrink, of each single cell of nodes of several levels, alone and beside one at the middle.
func TestSingleCells(t *testing.T) {
	for level := 1; level <= 5; level++ {
		half := 1 << level / 2
		for y := -half; y < half; y++ {
			for x := -half; x < half; x++ {
				for _, all := range []map[place]int{{{x, y}: 3}, {{x, y}: 3, {-1, 0}: 1}} {
					l := square(all, level)
					want := quad(all)
					wantOf(t, l, len(l), want)
					s, k := wantShrink(t, l, len(l))
					if s[k-1].Level != want[len(want)-1].Level || !sameCells(cells(s, k), all) {
						t.Errorf("Shrink(%v, %d): got %v, %d", l, len(l), s, k)
					}
				}
			}
		}
	}
}

// P6.1: Shrink, as told in words: empty ones, those that aren't hollow, and those that are more than once.
func TestShrink(t *testing.T) {
	none, d := nd(1, 0, 0, 0, 0), nd(1, 0, 0, 0, 4)
	l := list(
		none,               // 1: empty
		nd(2, 1, 1, 0, 1),  // 2: empty
		nd(3, 2, 0, 2, 2),  // 3: empty
		d,                  // 4: not hollow
		nd(2, 4, 0, 1, 1),  // 5: hollow
		nd(2, 0, 0, 1, 4),  // 6: not hollow
		nd(3, 6, 2, 0, 0),  // 7: hollow, twice
		nd(1, 4, 0, 0, 0),  // 8: not hollow
		nd(2, 1, 0, 1, 8),  // 9: hollow
		nd(3, 2, 2, 0, 9),  // 10: not hollow
		nd(3, 0, 2, 6, 0),  // 11: not hollow
		nd(4, 3, 3, 0, 10), // 12: not hollow
		nd(4, 10, 3, 0, 0), // 13: hollow, twice
	)
	levels := []int{0, 0, 0, 0, 1, 1, 2, 1, 1, 1, 3, 3, 4, 2}
	for n, level := range levels {
		s, k := wantShrink(t, l, n)
		got := 0
		if k > 0 {
			got = s[k-1].Level
		}
		if got != level || !sameCells(cells(s, k), cells(l, n)) {
			t.Errorf("Shrink(l, %d): got %v, %d", n, s, k)
		}
	}
	if s, k := canon.Shrink(nil, 0); len(s) != 0 || k != 0 {
		t.Errorf("Shrink(nil, 0): got %v, %d", s, k)
	}
}

// P6.1: Grow, to each level, below the quad's and beyond the greatest one too.
func TestGrow(t *testing.T) {
	for _, l := range quadOnes() {
		was := node.Level(api.Quad{Nodes: l})
		for level := -1; level <= was+4; level++ {
			g, n := wantGrow(t, l, level)
			if !sameCells(cells(g, n), cells(l, len(l))) {
				t.Errorf("Grow(%v, %d): got %v, %d", l, level, g, n)
			}
			if len(l) > 0 && len(g) > len(l)+5*max(0, level-was) {
				t.Errorf("Grow(%v, %d): got %d nodes", l, level, len(g))
			}
			wantOf(t, g, n, l)
		}
		for _, level := range []int{math.MinInt, 1330, 1331, math.MaxInt, 1 << 32, 1<<32 + 6} {
			wantGrow(t, l, level)
		}
	}
	g, n := wantGrow(t, list(nd(1, 1, 0, 0, 2)), 2)
	if !sameCells(cells(g, n), map[place]int{{-1, -1}: 1, {0, 0}: 2}) {
		t.Errorf("got %v, %d", g, n)
	}
}

// P6.2: a quad is its own root's; and each of its nodes has a quad of its own.
func TestOwnRoot(t *testing.T) {
	for _, l := range quadOnes() {
		wantOf(t, l, len(l), l)
		for n := range len(l) + 1 {
			wantOf(t, l, n, quad(cells(l, n)))
		}
		// What was shrunk or not, and came behind others, is the same one.
		s, k := canon.Shrink(l, len(l))
		wantOf(t, s, k, l)
	}
}

// behind is l with those of m behind it, their numbers so many more.
func behind(l, m []api.Node) []api.Node {
	all := slices.Clone(l)
	for _, x := range m {
		for i, kid := range x.Kids {
			if x.Level > 1 && kid != 0 {
				x.Kids[i] += len(l)
			}
		}
		all = append(all, x)
	}
	return all
}

// P6.2: whatever is grown, and put behind one another, comes back.
func TestBehindOneAnother(t *testing.T) {
	r := numberer(5)
	some := quadOnes()
	for range 1000 {
		l, m := some[r.below(len(some))], some[r.below(len(some))]
		g, n := canon.Grow(api.Quad{Nodes: l}, node.Level(api.Quad{Nodes: l})+r.below(4))
		h, k := canon.Grow(api.Quad{Nodes: m}, node.Level(api.Quad{Nodes: m})+r.below(4))
		both := behind(g, h)
		wantOf(t, both, n, l)
		if k > 0 {
			wantOf(t, both, len(g)+k, m)
		}
		// Both as quarters of one.
		if n > 0 && k > 0 && g[n-1].Level == h[k-1].Level {
			both = append(both, nd(g[n-1].Level+1, n, len(g)+k, 0, n))
			wantOf(t, both, len(both), quad(cells(both, len(both))))
		}
	}
}

// tower is a node of each level up to level, of which each has the one below it as its quarter (all four, if it is above 3).
func tower(leaf api.Node, level, quarter int) []api.Node {
	l := list(leaf)
	for len(l) < level {
		x := nd(len(l)+1, len(l), len(l), len(l), len(l))
		if quarter <= 3 {
			x.Kids = [4]int{}
			x.Kids[quarter] = len(l)
		}
		l = append(l, x)
	}
	return l
}

// P6.1, P6.2: up to the greatest level, grown and shrunk; a node of which each quarter is the same one has more cells than could be gone one by one.
func TestGreatest(t *testing.T) {
	for _, level := range []int{1, 2, 64, 65, 1000, 1328, 1329} {
		for quarter := range 5 {
			l := tower(nd(1, 1, 0, 0, 1), level, quarter)
			wantOf(t, l, level, l)
			g, n := wantGrow(t, l, 1329)
			wantOf(t, g, n, l)
			s, k := wantShrink(t, g, n)
			if s[k-1].Level != level {
				t.Errorf("of level %d: shrunk to %d", level, s[k-1].Level)
			}
			wantGrow(t, l, 1330)
			none := tower(nd(1, 0, 0, 0, 0), level, quarter)
			wantOf(t, none, level, nil)
			wantShrink(t, none, level)
			// One cell far out, with empty ones around it.
			all := behind(none, l)
			for n, x := range all[level:] {
				for i, kid := range x.Kids {
					if x.Level > 1 && kid == 0 {
						all[level+n].Kids[i] = n
					}
				}
			}
			wantOf(t, all, len(all), l)
			wantShrink(t, all, len(all))
		}
	}
}

// P6.1: two nodes at each level, each with both below, each of them twice: the ways through are more than could be gone one by one.
func TestShared(t *testing.T) {
	l := list(nd(1, 1, 0, 0, 0), nd(1, 2, 0, 0, 0))
	var all []api.Node
	for level := 2; level < 1329; level++ {
		n := len(l)
		l = append(l, nd(level, n-1, n, n, n-1), nd(level, n-1, n, n-1, n))
	}
	l = append(l, nd(1329, len(l)-1, len(l), len(l), len(l)-1))
	for n, x := range l {
		for i, kid := range x.Kids {
			if x.Level > 1 && kid != 0 {
				x.Kids[i] = kid*2 - (n+i)%2
			}
		}
		all = append(all, x, x)
	}
	wantOf(t, all, len(all), l)
	wantOf(t, all, len(all)-1, l)
	wantOf(t, l, len(l), l)
}

// P6.1: what was handed in stays as it was, its spare room too, and whoever writes into the answer doesn't change it.
func TestLeftAsItWas(t *testing.T) {
	spare := nd(9, 9, 9, 9, 9)
	for _, l := range append(looseOnes(), quadOnes()...) {
		given := append(slices.Clone(l), spare, spare, spare, spare, spare, spare)
		was := slices.Clone(given)
		l = given[:len(l)]
		for n := range len(l) + 1 {
			q, _ := canon.Of(l, n)
			spoil(q.Nodes)
			s, _ := canon.Shrink(l, n)
			spoil(s)
		}
		if q := (api.Quad{Nodes: l}); node.Right(q) {
			for level := range 8 {
				g, _ := canon.Grow(q, level)
				spoil(g)
			}
		}
		if !slices.Equal(given, was) {
			t.Fatalf("changed: %v, was %v", given, was)
		}
	}
}

// spoil writes into all of l, its spare room too.
func spoil(l []api.Node) {
	l = l[:cap(l)]
	for i := range l {
		l[i] = nd(-7, -7, -7, -7, -7)
	}
}

// P6.1: a call hangs on its arguments alone: asked once more, and between others, it answers the same.
func TestOnceMore(t *testing.T) {
	a, b := nd(1, 1, 0, 0, 0), nd(1, 0, 0, 0, 3)
	for range 3 {
		wantOf(t, list(a, nd(2, 1, 1, 0, 0)), 2, list(a, nd(2, 1, 1, 0, 0)))
		wantOf(t, list(b, nd(2, 1, 1, 0, 0)), 2, list(b, nd(2, 1, 1, 0, 0)))
		wantOf(t, list(b, nd(2, 1, 0, 0, 0)), 2, list(nd(1, 3, 0, 0, 0)))
	}
}
