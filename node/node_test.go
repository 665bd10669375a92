package node_test

import (
	"math"
	"slices"
	"testing"

	"glider/api"
	"glider/node"
)

// nd is a node, as it is told in words.
func nd(level, a, b, c, d int) api.Node {
	return api.Node{Level: level, Kids: [4]int{a, b, c, d}}
}

// list are nodes, one behind the other.
func list(l ...api.Node) []api.Node { return l }

// picture is all cells of a node of a level, told apart from the package under test: each quarter in its place.
func picture(l []api.Node, n, level int) [][]byte {
	side := 1 << level
	rows := make([][]byte, side)
	for y := range rows {
		rows[y] = make([]byte, side)
	}
	if n == 0 {
		return rows
	}
	for i, kid := range l[n-1].Kids {
		x0, y0 := i%2*side/2, i/2*side/2
		if level == 1 {
			rows[y0][x0] = byte(kid)
			continue
		}
		for y, row := range picture(l, kid, level-1) {
			copy(rows[y0+y][x0:], row)
		}
	}
	return rows
}

// level is the level of the node n of l; some level of none.
func level(l []api.Node, n int) int {
	if n == 0 {
		return 2
	}
	return l[n-1].Level
}

// isEmpty tells by its picture whether a node is empty.
func isEmpty(l []api.Node, n int) bool {
	for _, row := range picture(l, n, level(l, n)) {
		for _, state := range row {
			if state != 0 {
				return false
			}
		}
	}
	return true
}

// isHollow tells by its picture whether a node is hollow.
func isHollow(l []api.Node, n int) bool {
	if n == 0 || l[n-1].Level < 2 {
		return false
	}
	side := 1 << l[n-1].Level
	from, to := side/4, side/4*3
	for y, row := range picture(l, n, l[n-1].Level) {
		for x, state := range row {
			if state != 0 && (x < from || x >= to || y < from || y >= to) {
				return false
			}
		}
	}
	return true
}

// isLoose tells by the chapter's words whether l is loose.
func isLoose(l []api.Node) bool {
	for i, x := range l {
		if x.Level <= 0 || x.Level >= 1330 {
			return false
		}
		for _, kid := range x.Kids {
			switch {
			case x.Level == 1:
				if kid <= -1 || kid >= 256 {
					return false
				}
			case kid != 0:
				if !slices.ContainsFunc(numbers(l[:i]), func(n int) bool { return n == kid && l[n-1].Level == x.Level-1 }) {
					return false
				}
			}
		}
	}
	return true
}

// numbers are those of the nodes of l.
func numbers(l []api.Node) []int {
	var ns []int
	for i := range l {
		ns = append(ns, i+1)
	}
	return ns
}

// ends are the numbers of nodes in which they come to an end, if one goes through the node n.
func ends(l []api.Node, n int, ended []int) []int {
	if n == 0 || slices.Contains(ended, n) {
		return ended
	}
	if l[n-1].Level > 1 {
		for _, kid := range l[n-1].Kids {
			ended = ends(l, kid, ended)
		}
	}
	return append(ended, n)
}

// isRight tells by the chapter's words whether a quad of the nodes l may be.
func isRight(l []api.Node) bool {
	if len(l) == 0 {
		return true
	}
	if !isLoose(l) || isHollow(l, len(l)) {
		return false
	}
	for i := range l {
		if isEmpty(l, i+1) || slices.Contains(l[:i], l[i]) {
			return false
		}
	}
	return slices.Equal(ends(l, len(l), nil), numbers(l))
}

// wantAll holds all that is told of a list against what the words and its picture tell (so of lists of low levels).
func wantAll(t *testing.T, l []api.Node) {
	t.Helper()
	loose := isLoose(l)
	if node.Loose(l) != loose {
		t.Errorf("Loose(%v): got %v", l, !loose)
	}
	q := api.Quad{Nodes: l}
	if want := isRight(l); node.Right(q) != want {
		t.Errorf("Right(%v): got %v", l, !want)
	}
	if !loose {
		return
	}
	for n := range len(l) + 1 {
		wantEmpty(t, l, n, isEmpty(l, n))
		wantHollow(t, l, n, isHollow(l, n))
	}
}

// wantEmpty asks whether a node is empty.
func wantEmpty(t *testing.T, l []api.Node, n int, want bool) {
	t.Helper()
	if node.Empty(l, n) != want {
		t.Errorf("Empty(%v, %d): got %v", l, n, !want)
	}
}

// wantHollow asks whether a node is hollow.
func wantHollow(t *testing.T, l []api.Node, n int, want bool) {
	t.Helper()
	if node.Hollow(l, n) != want {
		t.Errorf("Hollow(%v, %d): got %v", l, n, !want)
	}
}

// wantLoose asks whether a list is loose; one that isn't may be no quad's.
func wantLoose(t *testing.T, l []api.Node, want bool) {
	t.Helper()
	if node.Loose(l) != want {
		t.Errorf("Loose(%v): got %v", l, !want)
	}
	if !want {
		wantRight(t, l, false)
	}
}

// wantRight asks whether a quad may be.
func wantRight(t *testing.T, l []api.Node, want bool) {
	t.Helper()
	if node.Right(api.Quad{Nodes: l}) != want {
		t.Errorf("Right(%v): got %v", l, !want)
	}
}

// P5.1: Loose, level by level.
func TestLooseLevel(t *testing.T) {
	for _, level := range []int{1, 2, 3, 4, 5, 8, 255, 256, 1000, 1328, 1329} {
		wantLoose(t, list(nd(level, 0, 0, 0, 0)), true)
	}
	for _, level := range []int{0, -1, -2, 1330, 1331, 2000, math.MinInt, math.MinInt + 1, math.MaxInt, -1 << 32, 1 << 32, 1<<32 + 1, 1<<32 + 2} {
		wantLoose(t, list(nd(level, 0, 0, 0, 0)), false)
		wantLoose(t, list(nd(1, 1, 0, 0, 0), nd(level, 0, 0, 0, 0)), false)
		wantLoose(t, list(nd(level, 0, 0, 0, 0), nd(1, 1, 0, 0, 0)), false)
	}
	// A node has quarters of the level below its own, and of no other one.
	for below := 1; below < 6; below++ {
		for above := 2; above < 7; above++ {
			wantLoose(t, list(nd(below, 0, 0, 0, 0), nd(above, 0, 1, 0, 0)), above == below+1)
		}
	}
	wantLoose(t, list(nd(1328, 0, 0, 0, 0), nd(1329, 1, 1, 1, 1)), true)
	wantLoose(t, list(nd(1329, 0, 0, 0, 0), nd(1330, 1, 1, 1, 1)), false)
}

// P5.1: Loose, of states, each in each place.
func TestLooseStates(t *testing.T) {
	for at := range 4 {
		for kid := -300; kid <= 600; kid++ {
			var x api.Node
			x.Level, x.Kids[at] = 1, kid
			wantLoose(t, list(x), kid >= 0 && kid <= 255)
			wantLoose(t, list(nd(1, 255, 255, 255, 255), nd(2, 1, 1, 1, 1), x), kid >= 0 && kid <= 255)
		}
		for _, kid := range []int{math.MinInt, math.MaxInt, -1 << 32, 1 << 32, 1<<32 + 1, -256, 256, 1 << 16} {
			var x api.Node
			x.Level, x.Kids[at] = 1, kid
			wantLoose(t, list(x), false)
		}
	}
}

// P5.1: Loose, of numbers of nodes, each in each place.
func TestLooseNumbers(t *testing.T) {
	ahead := list(nd(1, 1, 0, 0, 0), nd(1, 2, 0, 0, 0), nd(2, 1, 2, 0, 0), nd(1, 0, 0, 0, 0))
	behind := list(nd(1, 5, 0, 0, 0), nd(2, 1, 0, 0, 0))
	for at := range 4 {
		for _, kid := range []int{-2, -1, 0, 1, 2, 3, 4, 5, 6, 7, 8, math.MinInt, math.MaxInt, 1<<32 + 1, 1<<32 + 2, -1 << 32} {
			x := nd(2, 0, 0, 0, 0)
			x.Kids[at] = kid
			want := kid == 0 || kid == 1 || kid == 2 || kid == 4
			wantLoose(t, append(slices.Clone(ahead), x), want)
			wantLoose(t, slices.Concat(ahead, list(x), behind), want)
			x.Level = 3
			wantLoose(t, append(slices.Clone(ahead), x), kid == 0 || kid == 3)
			x.Level = 4
			wantLoose(t, append(slices.Clone(ahead), x), kid == 0)
		}
	}
	// Itself, or one behind it, is none.
	wantLoose(t, list(nd(2, 1, 0, 0, 0)), false)
	wantLoose(t, list(nd(2, 2, 0, 0, 0), nd(1, 0, 0, 0, 0)), false)
	wantLoose(t, list(nd(2, 0, 0, 0, 2), nd(1, 1, 1, 1, 1)), false)
	wantLoose(t, nil, true)
	wantLoose(t, list(), true)
}

// P5.1: Empty and Hollow, as told in words; so of no node.
func TestEmptyHollow(t *testing.T) {
	l := list(
		nd(1, 0, 0, 0, 0),    // 1: empty
		nd(2, 0, 0, 0, 0),    // 2: empty
		nd(2, 1, 0, 1, 1),    // 3: empty by its quarters
		nd(3, 2, 3, 0, 2),    // 4: empty by theirs
		nd(1, 0, 0, 0, 9),    // 5: a cell in the south east
		nd(1, 9, 0, 0, 0),    // 6: in the north west
		nd(2, 5, 1, 1, 6),    // 7: two around the middle
		nd(2, 6, 0, 0, 0),    // 8: one at the corner
		nd(2, 5, 0, 0, 5),    // 9: one at the middle, and one at the corner
		nd(3, 8, 0, 0, 0),    // 10: not hollow
		nd(3, 7, 0, 0, 0),    // 11: not hollow: the cells are around another middle
		nd(2, 0, 0, 0, 6),    // 12: hollow
		nd(3, 3, 2, 0, 12),   // 13: not hollow: in the south east quarter's own south east
		nd(3, 0, 3, 2, 8),    // 14: hollow
		nd(1329, 0, 0, 0, 0), // 15: empty
	)
	empty := []bool{true, true, true, true, true, false, false, false, false, false, false, false, false, false, false, true}
	hollow := []bool{false, false, true, true, true, false, false, true, false, false, false, false, true, false, true, true}
	for n := range len(l) + 1 {
		wantEmpty(t, l, n, empty[n])
		wantHollow(t, l, n, hollow[n])
	}
	for _, none := range [][]api.Node{nil, {}} {
		wantEmpty(t, none, 0, true)
		wantHollow(t, none, 0, false)
	}
}

// P5.1: Empty and Hollow, of each single cell of nodes of several levels, alone and beside one at the middle.
func TestSingleCells(t *testing.T) {
	for level := 1; level <= 5; level++ {
		side := 1 << level
		for y := range side {
			for x := range side {
				for _, middle := range []bool{false, true} {
					rows := blank(side)
					rows[side/2][side/2] = 1
					if !middle {
						rows[side/2][side/2] = 0
					}
					rows[y][x] = 255
					l := quarters(rows)
					inside := x >= side/4 && x < side/4*3 && y >= side/4 && y < side/4*3
					wantEmpty(t, l, len(l), false)
					wantHollow(t, l, len(l), level > 1 && inside)
					wantRight(t, l, level == 1 || !inside)
				}
			}
		}
	}
}

// blank are that many rows of as many cells, all 0.
func blank(side int) [][]byte {
	rows := make([][]byte, side)
	for y := range rows {
		rows[y] = make([]byte, side)
	}
	return rows
}

// quarters are the nodes of rows, each just once, none empty, in the order in which they come to an end.
func quarters(rows [][]byte) []api.Node {
	var l []api.Node
	var add func(x, y, level int) int
	add = func(x, y, level int) int {
		made := api.Node{Level: level}
		for i := range 4 {
			half := 1 << level / 2
			kx, ky := x+i%2*half, y+i/2*half
			if level == 1 {
				made.Kids[i] = int(rows[ky][kx])
			} else {
				made.Kids[i] = add(kx, ky, level-1)
			}
		}
		if made.Kids == [4]int{} {
			return 0
		}
		if at := slices.Index(l, made); at >= 0 {
			return at + 1
		}
		l = append(l, made)
		return len(l)
	}
	level := 0
	for 1<<level < len(rows) {
		level++
	}
	add(0, 0, level)
	return l
}

// P5.1: all that is told of each list of up to three nodes out of a few, loose or not.
func TestEachSmallList(t *testing.T) {
	var grow func(l []api.Node)
	grow = func(l []api.Node) {
		wantAll(t, l)
		if len(l) == 3 {
			return
		}
		for _, leaf := range list(nd(1, 0, 0, 0, 0), nd(1, 1, 0, 0, 0), nd(1, 0, 0, 0, 1), nd(1, 0, 1, 2, 0)) {
			grow(append(slices.Clone(l), leaf))
		}
		count := len(l) + 1
		for k := range count * count * count * count {
			for level := 2; level <= 3; level++ {
				grow(append(slices.Clone(l), nd(level, k%count, k/count%count, k/count/count%count, k/count/count/count)))
			}
		}
	}
	grow(nil)
}

// numberer answers numbers that look like chance, the same ones each time.
type numberer uint32

// below is the next one, from 0 to below n.
func (r *numberer) below(n int) int {
	*r = *r*1664525 + 1013904223
	return int(*r>>8) % n
}

// some is a list of up to most nodes, of which nearly each one fits behind those ahead.
func (r *numberer) some(most int) []api.Node {
	var l []api.Node
	for range r.below(most) + 1 {
		x := api.Node{Level: r.below(4) + 1}
		for i := range x.Kids {
			if r.below(2) == 0 {
				continue
			}
			if x.Level == 1 {
				x.Kids[i] = r.below(3)
				continue
			}
			for n, y := range l {
				if y.Level == x.Level-1 && r.below(2) == 0 {
					x.Kids[i] = n + 1
				}
			}
		}
		if r.below(100) == 0 {
			x.Kids[r.below(4)] = r.below(most+3) - 1
		}
		l = append(l, x)
	}
	return l
}

// P5.1: all that is told of many longer lists.
func TestManyLists(t *testing.T) {
	r := numberer(1)
	for range 30000 {
		wantAll(t, r.some(12))
	}
}

// rightOnes are quads' nodes of many kinds: cells spread thin and thick, alike and unlike, of levels from 1 to 5.
func rightOnes() [][]api.Node {
	all := [][]api.Node{nil}
	r := numberer(7)
	for level := 1; level <= 5; level++ {
		side := 1 << level
		for _, rare := range []int{1, 2, 5, 20, 100} {
			for _, states := range []int{1, 2, 255} {
				rows := blank(side)
				for y := range side {
					for x := range side {
						if r.below(rare) == 0 {
							rows[y][x] = byte(r.below(states) + 1)
						}
					}
				}
				// A cell at the corner, so that the root isn't hollow.
				rows[r.below(2)*(side-1)][r.below(2)*(side-1)] = 1
				all = append(all, quarters(rows))
			}
		}
	}
	return all
}

// P5.1: Right, of quads that may be, and of what comes of them by one change.
func TestRightChanged(t *testing.T) {
	for _, l := range rightOnes() {
		wantRight(t, l, true)
		if len(l) == 0 {
			continue
		}
		root := l[len(l)-1]
		// Once more, with a node beside it that isn't its quarter, or without its root.
		wantRight(t, append(slices.Clone(l), root), false)
		wantRight(t, append(slices.Clone(l), nd(1, 0, 0, 0, 77)), false)
		wantRight(t, shifted(l, nd(1, 0, 0, 0, 77)), false)
		wantRight(t, append(slices.Clone(l), nd(1, 0, 0, 0, 0)), false)
		wantRight(t, append(slices.Clone(l), nd(root.Level+1, 0, 0, 0, 0)), false)
		if last := l[:len(l)-1]; len(last) > 0 {
			wantRight(t, last, isRight(last))
		}
		// Within a greater one, where that is hollow, or isn't.
		for i := range 4 {
			x := nd(root.Level+1, 0, 0, 0, 0)
			x.Kids[i] = len(l)
			grown := append(slices.Clone(l), x)
			wantRight(t, grown, isRight(grown))
		}
		if len(l) > 30 {
			continue
		}
		for i := range l {
			for at := range 4 {
				for _, kid := range []int{0, 1, 2, l[i].Kids[at] - 1, l[i].Kids[at] + 1, 255, 256, -1} {
					other := slices.Clone(l)
					other[i].Kids[at] = kid
					wantRight(t, other, isRight(other))
				}
			}
		}
	}
}

// shifted is l behind x, with its numbers one up.
func shifted(l []api.Node, x api.Node) []api.Node {
	all := list(x)
	for _, y := range l {
		for i, kid := range y.Kids {
			if y.Level > 1 && kid > 0 {
				y.Kids[i]++
			}
		}
		all = append(all, y)
	}
	return all
}

// swapped is l with two nodes, one behind the other, in the other order, and all numbers so that each node has the quarters it had.
func swapped(l []api.Node, first int) []api.Node {
	all := slices.Clone(l)
	all[first-1], all[first] = all[first], all[first-1]
	for i := range all {
		for k, kid := range all[i].Kids {
			switch {
			case all[i].Level == 1:
			case kid == first:
				all[i].Kids[k]++
			case kid == first+1:
				all[i].Kids[k]--
			}
		}
	}
	return all
}

// P5.1: Right, of nodes in another order, the same cells or not: only one order may be.
func TestRightOrder(t *testing.T) {
	for _, l := range rightOnes() {
		for first := 1; first < len(l); first++ {
			other := swapped(l, first)
			if !slices.Equal(other, l) {
				wantRight(t, other, false)
			}
		}
	}
	a, b := nd(1, 1, 0, 0, 0), nd(1, 2, 0, 0, 0)
	wantRight(t, list(a, b, nd(2, 1, 2, 0, 0)), true)
	wantRight(t, list(a, b, nd(2, 1, 1, 2, 1)), true)
	wantRight(t, list(a, b, nd(2, 2, 1, 0, 0)), false)
	wantRight(t, list(a, b, nd(2, 2, 1, 1, 2)), false)
	// A quarter that was gone through is the same one later on, at any depth.
	wantRight(t, list(a, nd(2, 1, 0, 0, 0), b, nd(2, 3, 1, 0, 0), nd(3, 2, 4, 0, 0)), true)
	wantRight(t, list(a, b, nd(2, 1, 0, 0, 0), nd(2, 2, 1, 0, 0), nd(3, 3, 4, 0, 0)), false)
	wantRight(t, list(a, nd(2, 1, 0, 0, 0), b, nd(2, 1, 3, 0, 0), nd(3, 2, 4, 0, 0)), true)
	wantRight(t, list(a, nd(2, 1, 0, 0, 0), b, nd(2, 1, 3, 0, 0), nd(3, 4, 2, 0, 0)), false)
}

// P5.1: Right, where one thing alone is wrong.
func TestRightWrong(t *testing.T) {
	a, b := nd(1, 1, 0, 0, 0), nd(1, 0, 0, 0, 1)
	for _, l := range [][]api.Node{
		// Empty ones: alone, as a quarter, as a root, of a level above 1.
		list(nd(1, 0, 0, 0, 0)), list(nd(2, 0, 0, 0, 0)), list(nd(5, 0, 0, 0, 0)),
		list(a, nd(1, 0, 0, 0, 0), nd(2, 1, 2, 0, 0)), list(nd(1, 0, 0, 0, 0), nd(2, 1, 0, 0, 0)),
		list(a, nd(2, 1, 0, 0, 0), nd(2, 0, 0, 0, 0), nd(3, 2, 3, 0, 0)),
		// The same one twice, both used, of level 1 and above.
		list(a, a, nd(2, 1, 2, 0, 0)), list(a, a), list(a, nd(2, 1, 0, 0, 0), nd(2, 1, 0, 0, 0), nd(3, 2, 3, 0, 0)),
		// A hollow root, of level 2 and above.
		list(b, nd(2, 1, 0, 0, 0)), list(nd(1, 0, 0, 1, 0), nd(2, 0, 1, 0, 0)), list(nd(1, 0, 1, 0, 0), nd(2, 0, 0, 1, 0)), list(a, nd(2, 0, 0, 0, 1)),
		list(a, nd(2, 0, 0, 0, 1), nd(3, 2, 0, 0, 0)), list(a, nd(2, 1, 0, 0, 0), nd(3, 0, 0, 0, 2)),
		// Nodes that the root doesn't reach: ahead, between, behind, and two roots.
		list(b, a, nd(2, 2, 0, 0, 0)), list(a, b, nd(2, 1, 0, 0, 0)), list(a, nd(2, 1, 0, 0, 0), b), list(a, b), list(a, nd(2, 1, 0, 0, 0), nd(2, 1, 1, 0, 0)),
		// A root that isn't the last one.
		list(a, nd(2, 1, 0, 0, 0), nd(3, 2, 0, 0, 0), nd(2, 1, 1, 0, 0)),
	} {
		wantLoose(t, l, true)
		wantRight(t, l, false)
		wantAll(t, l)
	}
	for _, l := range [][]api.Node{
		nil, {}, list(a), list(b), list(nd(1, 255, 255, 255, 255)), list(a, nd(2, 1, 0, 0, 0)), list(b, nd(2, 1, 0, 0, 1)), list(b, nd(2, 0, 0, 0, 1)),
		list(b, nd(2, 1, 0, 0, 0), nd(3, 2, 2, 0, 0)), list(a, b, nd(2, 1, 0, 0, 2)), list(b, a, nd(2, 1, 2, 0, 0)),
	} {
		wantRight(t, l, true)
		wantAll(t, l)
	}
	wantRight(t, list(nd(1329, 0, 0, 0, 0)), false)
	// A leaf's states are no numbers of nodes.
	wantRight(t, list(nd(1, 2, 2, 2, 2), nd(2, 1, 0, 0, 0)), true)
	wantRight(t, list(nd(1, 1, 1, 1, 1), nd(1, 2, 1, 1, 1), nd(1, 9, 1, 3, 2), nd(2, 1, 2, 3, 0)), true)
}

// tower is a node of each level up to level, the first one leaf, of which each other one has the one below it as that quarter (all four, if it is above 3).
func tower(leaf api.Node, level, quarter int) []api.Node {
	l := list(leaf)
	for len(l) < level {
		x := nd(len(l)+1, len(l), len(l), len(l), len(l))
		if quarter <= 3 {
			x.Kids = [4]int{}
			x.Kids[quarter] = len(l)
		}
		l = append(l, x)
	}
	return l
}

// P5.1: towers up to the greatest level, and one level more; a node of which each quarter is the same one has more cells than could be gone one by one.
func TestTowers(t *testing.T) {
	for _, level := range []int{1, 2, 3, 64, 65, 1328, 1329, 1330, 1331} {
		for quarter := range 5 {
			l := tower(nd(1, 1, 0, 0, 1), level, quarter)
			wantLoose(t, l, level <= 1329)
			if level > 1329 {
				continue
			}
			wantRight(t, l, true)
			wantEmpty(t, l, level, false)
			wantHollow(t, l, level, false)
			if got := node.Level(api.Quad{Nodes: l}); got != level {
				t.Errorf("Level of a tower of %d: got %d", level, got)
			}
			none := tower(nd(1, 0, 0, 0, 0), level, quarter)
			wantLoose(t, none, true)
			wantRight(t, none, false)
			wantEmpty(t, none, level, true)
			wantHollow(t, none, level, level > 1)
		}
	}
}

// P5.1: one cell at the end of a great tower of empty ones is found, in whichever quarter it is.
func TestOneFar(t *testing.T) {
	for quarter := range 4 {
		l := tower(nd(1, 0, 0, 0, 0), 1329, 4)
		cell := nd(1, 0, 0, 0, 0)
		cell.Kids[quarter] = 1
		l = append(l, cell)
		for level := 2; level <= 1329; level++ {
			x := nd(level, level-1, level-1, level-1, level-1)
			x.Kids[quarter] = len(l)
			l = append(l, x)
		}
		wantLoose(t, l, true)
		wantEmpty(t, l, 1329, true)
		wantEmpty(t, l, len(l), false)
		wantHollow(t, l, 1329, true)
		wantHollow(t, l, len(l), false)
		// Where its level's first step is to the other side, it is at the middle.
		inner := nd(1329, 1328, 1328, 1328, 1328)
		inner.Kids[3-quarter] = len(l) - 1
		wantHollow(t, append(l, inner), len(l)+1, true)
	}
}

// P5.1: Right, of two nodes at each level, each with both below: the ways through are more than could be gone one by one.
func TestShared(t *testing.T) {
	l := list(nd(1, 1, 0, 0, 0), nd(1, 2, 0, 0, 0))
	for level := 2; level < 1329; level++ {
		n := len(l)
		l = append(l, nd(level, n-1, n, n, n-1), nd(level, n-1, n, n-1, n))
	}
	// The second one of a level comes to an end behind the first one, and all that is below it.
	root := append(l, nd(1329, len(l)-1, len(l), len(l), len(l)-1))
	wantRight(t, root, true)
	wantRight(t, l, false)
	root[len(root)-1].Kids = [4]int{len(l), len(l) - 1, 0, 0}
	wantRight(t, root, false)
}

// P5.1: Level, of quads that may be.
func TestLevel(t *testing.T) {
	for _, l := range rightOnes() {
		want := 0
		for _, x := range l {
			want = max(want, x.Level)
		}
		if got := node.Level(api.Quad{Nodes: l}); got != want {
			t.Errorf("Level(%v): got %d, want %d", l, got, want)
		}
	}
	if node.Level(api.Quad{Nodes: []api.Node{}}) != 0 {
		t.Error("a quad without nodes is of no level 0")
	}
}

// wantSame asks whether nodes are the same, in either order.
func wantSame(t *testing.T, a, b []api.Node, want bool) {
	t.Helper()
	if node.Same(api.Quad{Nodes: a}, api.Quad{Nodes: b}) != want || node.Same(api.Quad{Nodes: b}, api.Quad{Nodes: a}) != want {
		t.Errorf("Same(%v, %v): got %v", a, b, !want)
	}
}

// P5.1: Same, of quads that may be, and of any others.
func TestSame(t *testing.T) {
	wantSame(t, nil, nil, true)
	wantSame(t, nil, list(), true)
	wantSame(t, nil, list(api.Node{}), false)
	all := rightOnes()
	all = append(all, list(nd(0, -1, 0, 0, 0)), list(nd(2, 7, 8, 9, -9)), list(nd(math.MinInt, math.MaxInt, 0, 0, 1), nd(2, 1, 0, 0, 0)))
	for _, l := range all {
		wantSame(t, l, slices.Clone(l), true)
		wantSame(t, l, append(slices.Clone(l), api.Node{}), false)
		wantSame(t, l, append(slices.Clone(l), nd(1, 1, 1, 1, 1)), false)
		for i := range l {
			wantSame(t, l, l[:i], false)
			wantSame(t, l, l[i+1:], false)
			other := slices.Clone(l)
			other[i].Level++
			wantSame(t, l, other, false)
			for at := range 4 {
				other = slices.Clone(l)
				other[i].Kids[at]--
				wantSame(t, l, other, false)
			}
		}
	}
	// The same cells as other nodes are others.
	wantSame(t, list(nd(1, 0, 0, 0, 1)), list(nd(1, 0, 0, 0, 1), nd(2, 1, 0, 0, 0)), false)
	wantSame(t, list(nd(1, 1, 0, 0, 0), nd(1, 2, 0, 0, 0)), list(nd(1, 2, 0, 0, 0), nd(1, 1, 0, 0, 0)), false)
}

// P5.1: what was handed in stays as it was, its spare room too.
func TestLeftAsItWas(t *testing.T) {
	spare := nd(9, 9, 9, 9, 9)
	r := numberer(3)
	all := rightOnes()
	for range 300 {
		all = append(all, r.some(12))
	}
	for _, l := range all {
		given := append(slices.Clone(l), spare, spare, spare)
		was := slices.Clone(given)
		l = given[:len(l)]
		q := api.Quad{Nodes: l}
		node.Right(q)
		node.Level(q)
		node.Same(q, api.Quad{Nodes: slices.Clone(l)})
		if node.Loose(l) {
			for n := range len(l) + 1 {
				node.Empty(l, n)
				node.Hollow(l, n)
			}
		}
		if !slices.Equal(given, was) {
			t.Fatalf("changed: %v, was %v", given, was)
		}
	}
}

// P5.1: a call hangs on its arguments alone: asked once more, and between others, it answers the same.
func TestOnceMore(t *testing.T) {
	l := list(nd(1, 0, 0, 0, 0), nd(2, 1, 1, 0, 0))
	m := list(nd(1, 0, 0, 0, 3), nd(2, 1, 1, 0, 0))
	for range 3 {
		wantEmpty(t, l, 2, true)
		wantEmpty(t, m, 2, false)
		wantHollow(t, l, 2, true)
		wantHollow(t, m, 2, false)
		wantRight(t, l, false)
		wantRight(t, m, true)
	}
}

// P5.2: in a quad that may be each node but the last one is a quarter of one behind it.
func TestEachUsed(t *testing.T) {
	r := numberer(11)
	all := rightOnes()
	for range 30000 {
		if l := r.some(6); node.Right(api.Quad{Nodes: l}) {
			all = append(all, l)
		}
	}
	if len(all) < 1000 {
		t.Fatalf("the test's quads are too few: %d", len(all))
	}
	for _, l := range all {
		for n := 1; n < len(l); n++ {
			if !slices.ContainsFunc(l[n:], func(x api.Node) bool { return x.Level > 1 && slices.Contains(x.Kids[:], n) }) {
				t.Errorf("the node %d is no quarter: %v", n, l)
			}
		}
	}
}

// twice is l with its node n once more, as the number at; of those behind that have it as a quarter each second one has the other one.
func twice(l []api.Node, n, at int) []api.Node {
	all := make([]api.Node, 0, len(l)+1)
	turn := false
	for i, x := range l {
		if i == at-1 {
			all = append(all, all[n-1])
		}
		for k, kid := range x.Kids {
			if x.Level == 1 || kid == 0 {
				continue
			}
			if kid >= at {
				x.Kids[k]++
			}
			if kid == n && i >= at-1 {
				turn = !turn
				if turn {
					x.Kids[k] = at
				}
			}
		}
		all = append(all, x)
	}
	return all
}

// P5.2: with a node twice no quad may be, wherever the other one stands, and whoever has it as a quarter.
func TestTwice(t *testing.T) {
	for _, l := range rightOnes() {
		if len(l) > 60 {
			continue
		}
		for n := 1; n <= len(l); n++ {
			for at := n + 1; at <= len(l); at++ {
				other := twice(l, n, at)
				wantLoose(t, other, true)
				wantRight(t, other, false)
			}
			wantRight(t, append(slices.Clone(l), l[n-1]), false)
		}
	}
}
