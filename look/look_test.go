package look_test

import (
	"math"
	mathbig "math/big"
	"slices"
	"testing"

	"glider/api"
	"glider/canon"
	"glider/cells"
	"glider/look"
	"glider/node"
)

// Cells may be from -2^far to below 2^far.
const far = 1328

// place is a column and a row.
type place struct{ x, y int }

// whole is a number of math/big.
func whole(n int) *mathbig.Int { return mathbig.NewInt(int64(n)) }

// pow is 2^n, and d.
func pow(n, d int) *mathbig.Int {
	return new(mathbig.Int).Add(new(mathbig.Int).Lsh(whole(1), uint(n)), whole(d))
}

// minus is -n.
func minus(n *mathbig.Int) *mathbig.Int { return new(mathbig.Int).Neg(n) }

// sum is the sum of two.
func sum(a, b *mathbig.Int) *mathbig.Int { return new(mathbig.Int).Add(a, b) }

// bigOf is the one big number that may be and that n is.
func bigOf(n *mathbig.Int) api.Big {
	x := api.Big{Neg: n.Sign() < 0}
	for n = new(mathbig.Int).Abs(n); n.Sign() > 0; n.Rsh(n, 32) {
		x.Limbs = append(x.Limbs, uint32(n.Uint64()))
	}
	return x
}

// of is the big number of an int.
func of(n int) api.Big { return bigOf(whole(n)) }

// nd is a node, as it is told in words.
func nd(level, a, b, c, d int) api.Node {
	return api.Node{Level: level, Kids: [4]int{a, b, c, d}}
}

// quad are nodes, one behind the other.
func quad(l ...api.Node) api.Quad { return api.Quad{Nodes: l} }

// tower is a node of each level from that leaf up to level, of which each has the one below it as its quarters, as many as told.
func tower(leaf api.Node, level, quarters int) []api.Node {
	l := []api.Node{leaf}
	for len(l) < level {
		x := nd(len(l)+1, 0, 0, 0, 0)
		for i := range quarters {
			x.Kids[i] = len(l)
		}
		l = append(l, x)
	}
	return l
}

// states are the states of a quad's cells that aren't 0, by their places, told apart from the package under test; the quad isn't too great for that.
func states(q api.Quad) map[place]byte {
	got := map[place]byte{}
	var put func(x api.Node, left, above int)
	put = func(x api.Node, left, above int) {
		side := 1 << x.Level / 2
		for i, kid := range x.Kids {
			at := place{left + i%2*side, above + i/2*side}
			switch {
			case kid == 0:
			case x.Level == 1:
				got[at] = byte(kid)
			default:
				put(q.Nodes[kid-1], at.x, at.y)
			}
		}
	}
	if len(q.Nodes) > 0 {
		root := q.Nodes[len(q.Nodes)-1]
		half := 1 << root.Level / 2
		put(root, -half, -half)
	}
	return got
}

// withState are the states as they are when one of them is set.
func withState(all map[place]byte, at place, state byte) map[place]byte {
	with := map[place]byte{at: state}
	for p, s := range all {
		if p != at {
			with[p] = s
		}
	}
	if state == 0 {
		delete(with, at)
	}
	return with
}

// sameStates tells whether the states are the same, at the same places.
func sameStates(a, b map[place]byte) bool {
	for at, s := range a {
		if b[at] != s {
			return false
		}
	}
	return len(a) == len(b)
}

// numberer answers numbers that look like chance, the same ones each time.
type numberer uint32

// below is the next one, from 0 to below n.
func (r *numberer) below(n int) int {
	*r = *r*1664525 + 1013904223
	return int(*r>>8) % n
}

// near is a place up to wide from 0, 0.
func (r *numberer) near(wide int) place {
	return place{r.below(2*wide) - wide, r.below(2*wide) - wide}
}

// state is any one, each second time 0.
func (r *numberer) state() byte { return byte(r.below(2) * r.below(256)) }

// quads are as many quads as told, put together from loose nodes of levels up to most, and the one without nodes.
func quads(seed numberer, count, most int) []api.Quad {
	r := seed
	all := []api.Quad{{}}
	for range count {
		var l []api.Node
		for range r.below(20) + 1 {
			x := api.Node{Level: r.below(most) + 1}
			for i := range x.Kids {
				if x.Level == 1 {
					x.Kids[i] = int(r.state())
					continue
				}
				for n, y := range l {
					if y.Level == x.Level-1 && r.below(2) == 0 {
						x.Kids[i] = n + 1
					}
				}
			}
			l = append(l, x)
		}
		q, _ := canon.Of(l, len(l))
		all = append(all, q)
	}
	return all
}

// edges are numbers at the borders of limbs, and at the ends of where cells may be.
func edges() []*mathbig.Int {
	l := []*mathbig.Int{whole(0), whole(1), whole(-1), whole(2), whole(-2)}
	for _, n := range []int{31, 32, 33, 63, 64, 65, 96, 1327, far} {
		for d := -2; d <= 2; d++ {
			l = append(l, pow(n, d), minus(pow(n, d)))
		}
	}
	return l
}

// beyonds are numbers beyond the ends, by one and by very much.
func beyonds() []api.Big {
	long := make([]uint32, 2000)
	long[1999] = 1
	return []api.Big{bigOf(pow(far, 0)), bigOf(minus(pow(far, 1))), bigOf(pow(far, 1)), bigOf(minus(pow(far, 2))), bigOf(pow(far+1, 0)), bigOf(minus(pow(far+1, 0))), bigOf(pow(1344, 0)), bigOf(pow(10001, 5)), {Limbs: long}, {Neg: true, Limbs: long}}
}

// fits tells whether cells may be in that column or row.
func fits(n *mathbig.Int) bool {
	return n.Cmp(minus(pow(far, 0))) >= 0 && n.Cmp(pow(far, 0)) < 0
}

// wantGet asks for one cell.
func wantGet(t *testing.T, q api.Quad, x, y api.Big, want byte) {
	t.Helper()
	if got := look.Get(q, x, y); got != want {
		t.Fatalf("Get(of %d nodes, level %d, %v, %v): got %d, want %d", len(q.Nodes), node.Level(q), x, y, got, want)
	}
}

// wantAll asks for each cell of a quad, and for those around it.
func wantAll(t *testing.T, q api.Quad, all map[place]byte) {
	t.Helper()
	half := 1 << node.Level(q) / 2
	for y := -half - 2; y < half+2; y++ {
		for x := -half - 2; x < half+2; x++ {
			wantGet(t, q, of(x), of(y), all[place{x, y}])
		}
	}
}

// wantSet sets a cell near 0, 0, and answers the quad; there is just one that may be and has the cells.
func wantSet(t *testing.T, q api.Quad, at place, state byte) api.Quad {
	t.Helper()
	got, e := look.Set(q, of(at.x), of(at.y), state)
	if e != api.OK || !node.Right(got) || !sameStates(states(got), withState(states(q), at, state)) {
		t.Fatalf("Set(%v, %v, %d): got %v, %d", q, at, state, got, e)
	}
	return got
}

// wantNodes sets a cell anywhere, and asks for the quad's nodes.
func wantNodes(t *testing.T, q api.Quad, x, y api.Big, state byte, want []api.Node) {
	t.Helper()
	got, e := look.Set(q, x, y, state)
	if e != api.OK || !slices.Equal(got.Nodes, want) {
		t.Fatalf("Set(of %d nodes, %v, %v, %d): got %v, %d, want %v", len(q.Nodes), x, y, state, got, e, want)
	}
}

// wantLimit sets a cell where none may be.
func wantLimit(t *testing.T, q api.Quad, x, y api.Big, state byte) {
	t.Helper()
	if got, e := look.Set(q, x, y, state); e != api.ErrLimit || len(got.Nodes) != 0 {
		t.Fatalf("Set(of %d nodes, %v, %v, %d): got %d nodes, %d", len(q.Nodes), x, y, state, len(got.Nodes), e)
	}
}

// P8.1: Get, as told in words.
func TestGet(t *testing.T) {
	small := quad(nd(1, 1, 2, 3, 255))
	wantGet(t, small, of(-1), of(-1), 1)
	wantGet(t, small, of(0), of(-1), 2)
	wantGet(t, small, of(-1), of(0), 3)
	wantGet(t, small, of(0), of(0), 255)
	wantGet(t, small, api.Big{}, api.Big{Limbs: []uint32{}}, 255)
	wide := quad(nd(1, 1, 0, 0, 0), nd(1, 1, 0, 2, 0), nd(2, 1, 0, 0, 2))
	wantGet(t, wide, of(-2), of(-2), 1)
	wantGet(t, wide, of(0), of(0), 1)
	wantGet(t, wide, of(0), of(1), 2)
	wantGet(t, wide, of(1), of(0), 0)
	wantGet(t, wide, of(0), of(-2), 0)
	wantAll(t, quad(nd(1, 0, 5, 0, 0), nd(2, 1, 0, 0, 0), nd(3, 0, 0, 2, 0)), map[place]byte{{-3, 0}: 5})
}

// P8.1: Get, of each cell of many quads, and of those around them.
func TestGetEach(t *testing.T) {
	for _, q := range quads(2, 400, 5) {
		wantAll(t, q, states(q))
	}
}

// P8.1: Get, of no nodes: each cell is 0, wherever it is.
func TestGetNone(t *testing.T) {
	for _, x := range edges() {
		for _, y := range edges() {
			wantGet(t, api.Quad{}, bigOf(x), bigOf(y), 0)
			wantGet(t, quad([]api.Node{}...), bigOf(x), bigOf(y), 0)
		}
	}
	for _, n := range beyonds() {
		wantGet(t, api.Quad{}, n, n, 0)
		wantGet(t, api.Quad{}, n, of(0), 0)
		wantGet(t, api.Quad{}, of(-1), n, 0)
	}
}

// P8.1: Get, at the ends of roots all of whose cells aren't 0, and just behind these, where they are 0, as they are where a number has the same lowest bits.
func TestGetEnds(t *testing.T) {
	for _, level := range []int{1, 2, 3, 31, 32, 33, 34, 63, 64, 65, 66, 96, 97, 1328, 1329} {
		q := quad(tower(nd(1, 5, 6, 7, 8), level, 4)...)
		first, last := minus(pow(level-1, 0)), pow(level-1, -1)
		inner := []*mathbig.Int{first, whole(-1), whole(0), last}
		for i, y := range inner {
			for k, x := range inner {
				// First ones of a leaf are even, since a root's middle lies between leaves, unless it is one.
				want := byte(5 + int(x.Bit(0)) + 2*int(y.Bit(0)))
				if level == 1 {
					want = byte(5 + k/2 + i/2*2)
				}
				wantGet(t, q, bigOf(x), bigOf(y), want)
			}
		}
		for _, x := range []*mathbig.Int{sum(first, whole(-1)), sum(last, whole(1)), sum(first, whole(-2)), sum(last, whole(2)), pow(level, 0), minus(pow(level, 0)), pow(level, -1), pow(level, 1), pow(level+31, 0), minus(pow(level+32, 0)), pow(2000, 0), pow(2000, 1), minus(pow(2000, 0)), pow(10001, 3)} {
			for _, y := range append(inner, x, minus(x)) {
				wantGet(t, q, bigOf(x), bigOf(y), 0)
				wantGet(t, q, bigOf(y), bigOf(x), 0)
			}
		}
	}
}

// P8.1: Get, of a cell at each edge, and of those beside it.
func TestGetFar(t *testing.T) {
	for i, x := range edges() {
		for _, y := range []*mathbig.Int{whole(0), x, minus(x), new(mathbig.Int).Not(x), edges()[(i*i+5)%len(edges())]} {
			if !fits(x) || !fits(y) {
				continue
			}
			q, e := cells.Of(api.Cell{X: bigOf(x), Y: bigOf(y), State: 201})
			if e != api.OK {
				t.Fatal(e)
			}
			wantGet(t, q, bigOf(x), bigOf(y), 201)
			for d := range 9 {
				if d != 4 {
					wantGet(t, q, bigOf(sum(x, whole(d%3-1))), bigOf(sum(y, whole(d/3-1))), 0)
				}
			}
			if x.Cmp(y) != 0 {
				wantGet(t, q, bigOf(y), bigOf(x), 0)
			}
			for _, n := range []int{0, 31, 32, 64, 1327, far, far + 1, 1344} {
				for _, step := range []*mathbig.Int{pow(n, 0), minus(pow(n, 0))} {
					wantGet(t, q, bigOf(sum(x, step)), bigOf(y), 0)
					wantGet(t, q, bigOf(x), bigOf(sum(y, step)), 0)
				}
			}
		}
	}
}

// P8.1: Set, as told in words.
func TestSet(t *testing.T) {
	one := quad(nd(1, 0, 0, 0, 1))
	for _, x := range []struct {
		q     api.Quad
		at    place
		state byte
		want  []api.Node
	}{
		{quad(), place{0, 0}, 1, one.Nodes},
		{quad(), place{-1, -1}, 255, quad(nd(1, 255, 0, 0, 0)).Nodes},
		{quad(), place{0, 0}, 0, nil},
		{quad(), place{1000, -1000}, 0, nil},
		{one, place{0, 0}, 0, nil},
		{one, place{0, 0}, 1, one.Nodes},
		{one, place{0, 0}, 2, quad(nd(1, 0, 0, 0, 2)).Nodes},
		{one, place{-1, 0}, 0, one.Nodes},
		{one, place{5, 7}, 0, one.Nodes},
		{one, place{-1, 0}, 9, quad(nd(1, 0, 0, 9, 1)).Nodes},
		// Beyond the root, on each side, it grows.
		{one, place{1, 0}, 7, quad(nd(1, 1, 7, 0, 0), nd(2, 0, 0, 0, 1)).Nodes},
		{one, place{-2, 0}, 7, quad(nd(1, 7, 0, 0, 0), nd(1, 1, 0, 0, 0), nd(2, 0, 0, 1, 2)).Nodes},
		{one, place{0, -3}, 7, quad(nd(1, 0, 0, 7, 0), nd(2, 1, 0, 0, 0), nd(1, 1, 0, 0, 0), nd(2, 3, 0, 0, 0), nd(3, 0, 2, 0, 4)).Nodes},
		// Without what was outermost it shrinks, over as many levels as there are.
		{quad(nd(1, 1, 7, 0, 0), nd(2, 0, 0, 0, 1)), place{1, 0}, 0, one.Nodes},
		{quad(nd(1, 0, 0, 7, 0), nd(2, 1, 0, 0, 0), nd(1, 1, 0, 0, 0), nd(2, 3, 0, 0, 0), nd(3, 0, 2, 0, 4)), place{0, -3}, 0, one.Nodes},
		// What was shared isn't any more, and is again.
		{quad(nd(1, 1, 0, 0, 0), nd(2, 1, 1, 1, 1)), place{0, -2}, 2, quad(nd(1, 1, 0, 0, 0), nd(1, 2, 0, 0, 0), nd(2, 1, 2, 1, 1)).Nodes},
		{quad(nd(1, 1, 0, 0, 0), nd(1, 2, 0, 0, 0), nd(2, 1, 2, 1, 1)), place{0, -2}, 1, quad(nd(1, 1, 0, 0, 0), nd(2, 1, 1, 1, 1)).Nodes},
	} {
		wantSet(t, x.q, x.at, x.state)
		wantNodes(t, x.q, of(x.at.x), of(x.at.y), x.state, x.want)
	}
}

// P8.1: Set, of each cell around the middle, of no nodes, beside another one, and among many.
func TestSetEach(t *testing.T) {
	for _, q := range []api.Quad{{}, quad(nd(1, 0, 0, 0, 1)), quad(nd(1, 0, 0, 9, 0), nd(2, 0, 0, 1, 0)), quad(tower(nd(1, 1, 2, 3, 4), 4, 4)...), quad(tower(nd(1, 1, 0, 0, 0), 5, 1)...)} {
		for y := -18; y <= 18; y++ {
			for x := -18; x <= 18; x++ {
				for _, s := range []byte{0, 1, 255} {
					wantSet(t, q, place{x, y}, s)
				}
			}
		}
	}
}

// P8.1: Set, of single cells at each edge, up to the ends and beyond them.
func TestSetEdges(t *testing.T) {
	near := api.Cell{X: of(-3), Y: of(2), State: 8}
	for i, x := range edges() {
		for _, y := range []*mathbig.Int{whole(0), whole(-1), x, minus(x), new(mathbig.Int).Not(x), edges()[(i*i+5)%len(edges())]} {
			only := api.Cell{X: bigOf(x), Y: bigOf(y), State: 200}
			want, e := cells.Of(only)
			both, _ := cells.Of(near, only)
			from, _ := cells.Of(near)
			if e != api.OK {
				wantLimit(t, api.Quad{}, only.X, only.Y, 200)
				wantLimit(t, from, only.X, only.Y, 1)
				continue
			}
			wantNodes(t, api.Quad{}, only.X, only.Y, 200, want.Nodes)
			wantNodes(t, api.Quad{}, only.X, only.Y, 0, nil)
			wantNodes(t, want, only.X, only.Y, 0, nil)
			wantNodes(t, from, only.X, only.Y, 200, both.Nodes)
			wantNodes(t, from, only.X, only.Y, 0, from.Nodes)
			wantNodes(t, both, only.X, only.Y, 0, from.Nodes)
			wantNodes(t, both, near.X, near.Y, 0, want.Nodes)
		}
	}
}

// P8.1: ErrLimit, wherever a state that isn't 0 would be beyond the ends; of the state 0 the quad stays as it is.
func TestSetLimit(t *testing.T) {
	q := quad(tower(nd(1, 1, 2, 3, 4), 5, 3)...)
	last := quad(tower(nd(1, 1, 2, 3, 4), 1329, 4)...)
	ends := []api.Big{{}, of(-1), of(7), bigOf(pow(far, -1)), bigOf(minus(pow(far, 0)))}
	for _, n := range beyonds() {
		for _, from := range []api.Quad{{}, q, last} {
			for _, other := range append(ends, n) {
				for _, s := range []byte{1, 2, 128, 255} {
					wantLimit(t, from, n, other, s)
					wantLimit(t, from, other, n, s)
				}
				wantNodes(t, from, n, other, 0, from.Nodes)
				wantNodes(t, from, other, n, 0, from.Nodes)
			}
		}
	}
	for _, x := range ends {
		for _, y := range ends {
			want, _ := cells.Of(api.Cell{X: x, Y: y, State: 1})
			wantNodes(t, api.Quad{}, x, y, 1, want.Nodes)
		}
	}
}

// P8.1: Set and Get, of a quad that has more cells than could be gone one by one, all of state 6: no other one is another one.
func TestGreat(t *testing.T) {
	for _, level := range []int{31, 32, 33, 34, 64, 65, 200, 1329} {
		q := quad(tower(nd(1, 6, 6, 6, 6), level, 4)...)
		full := cells.Count(q)
		ends := []*mathbig.Int{minus(pow(level-1, 0)), minus(pow(level-2, 1)), whole(-1), whole(0), whole(5), pow(level-2, 0), pow(level-1, -1)}
		for i, x := range ends {
			y := ends[(i*3+1)%len(ends)]
			less, e := look.Set(q, bigOf(x), bigOf(y), 0)
			if e != api.OK || !node.Right(less) {
				t.Fatalf("level %d, %v, %v: %d", level, x, y, e)
			}
			for _, cy := range ends {
				for _, cx := range ends {
					want := byte(6)
					if cx == x && cy == y {
						want = 0
					}
					wantGet(t, less, bigOf(cx), bigOf(cy), want)
				}
			}
			want := new(mathbig.Int).Sub(number(full), whole(1))
			if got := number(cells.Count(less)); got.Cmp(want) != 0 {
				t.Errorf("level %d: without one cell it has %v", level, got)
			}
			other, e := look.Set(q, bigOf(x), bigOf(y), 7)
			if e != api.OK || !node.Right(other) || number(cells.Count(other)).Cmp(number(full)) != 0 || look.Most(other) != 7 || look.Most(less) != 6 {
				t.Errorf("level %d, %v, %v: with another state, %d", level, x, y, e)
			}
			wantGet(t, other, bigOf(x), bigOf(y), 7)
			wantNodes(t, less, bigOf(x), bigOf(y), 6, q.Nodes)
			wantNodes(t, other, bigOf(x), bigOf(y), 6, q.Nodes)
			wantNodes(t, less, bigOf(x), bigOf(y), 7, other.Nodes)
			wantNodes(t, other, bigOf(x), bigOf(y), 0, less.Nodes)
			wantNodes(t, q, bigOf(x), bigOf(y), 6, q.Nodes)
		}
		if level < api.MaxLevel {
			// One just beyond the root: all others stay.
			wide, e := look.Set(q, bigOf(pow(level-1, 0)), of(0), 9)
			if e != api.OK || !node.Right(wide) || node.Level(wide) != level+1 || look.Most(wide) != 9 {
				t.Fatalf("level %d: just beyond it, %d", level, e)
			}
			wantGet(t, wide, bigOf(pow(level-1, 0)), of(0), 9)
			wantGet(t, wide, bigOf(pow(level-1, 1)), of(0), 0)
			for _, n := range ends {
				wantGet(t, wide, bigOf(n), bigOf(minus(pow(level-1, 0))), 6)
			}
			wantNodes(t, wide, bigOf(pow(level-1, 0)), of(0), 0, q.Nodes)
		}
	}
}

// number is what a big number is.
func number(x api.Big) *mathbig.Int {
	n := new(mathbig.Int)
	for _, limb := range slices.Backward(x.Limbs) {
		n.Or(n.Lsh(n, 32), whole(int(limb)))
	}
	if x.Neg {
		n.Neg(n)
	}
	return n
}

// P8.1: Set and Get, where nodes are shared in more ways than could be gone one by one.
func TestShared(t *testing.T) {
	l := []api.Node{nd(1, 1, 0, 0, 0), nd(1, 2, 0, 3, 1)}
	for level := 2; level <= 1328; level++ {
		n := len(l)
		l = append(l, nd(level, n-1, 0, n, 0), nd(level, n, n-1, 0, n))
	}
	l = append(l, nd(1329, len(l)-1, 0, 0, len(l)))
	q, e := canon.Of(l, len(l))
	if e != api.OK {
		t.Fatal("not a loose list")
	}
	first, last := bigOf(minus(pow(far, 0))), bigOf(pow(far, -1))
	wantGet(t, q, first, first, 1)
	wantGet(t, q, last, last, 1)
	wantGet(t, q, last, first, 0)
	if look.Most(q) != 3 {
		t.Errorf("Most: got %d, want 3", look.Most(q))
	}
	for i, x := range []api.Big{first, last, of(0), of(-1), of(1000), bigOf(pow(700, 3))} {
		for _, y := range []api.Big{first, last, of(0), of(-77)} {
			was := look.Get(q, x, y)
			got, e := look.Set(q, x, y, byte(100+i))
			if e != api.OK || !node.Right(got) || look.Most(got) != byte(100+i) {
				t.Fatalf("Set(%v, %v): %d", x, y, e)
			}
			wantGet(t, got, x, y, byte(100+i))
			wantNodes(t, got, x, y, was, q.Nodes)
		}
	}
}

// wantMost asks for the greatest state.
func wantMost(t *testing.T, q api.Quad, want byte) {
	t.Helper()
	if got := look.Most(q); got != want {
		t.Errorf("Most(%v): got %d, want %d", q, got, want)
	}
}

// P8.1: Most, of no nodes, of each state in each quarter, of nodes in any order, and of many whose numbers are above the states.
func TestMost(t *testing.T) {
	wantMost(t, api.Quad{}, 0)
	wantMost(t, quad([]api.Node{}...), 0)
	for i := range 4 {
		for s := 1; s <= 255; s++ {
			leaf := nd(1, 0, 0, 0, 0)
			leaf.Kids[i] = s
			wantMost(t, quad(leaf), byte(s))
			leaf.Kids[(i+1)%4] = s - 1
			wantMost(t, quad(leaf), byte(s))
			wantMost(t, quad(tower(leaf, 700, 4)...), byte(s))
		}
	}
	wantMost(t, quad(nd(1, 1, 0, 0, 0), nd(1, 9, 0, 0, 0), nd(1, 4, 0, 0, 0), nd(2, 1, 2, 3, 0)), 9)
	wantMost(t, quad(nd(1, 9, 0, 0, 0), nd(1, 4, 0, 0, 0), nd(2, 1, 2, 0, 0)), 9)
	wantMost(t, quad(nd(1, 4, 0, 0, 0), nd(1, 9, 0, 0, 0), nd(2, 1, 2, 0, 0)), 9)
	wantMost(t, quad(tower(nd(1, 1, 0, 0, 0), 1329, 1)...), 1)
	for _, q := range quads(5, 400, 7) {
		want := byte(0)
		for _, s := range states(q) {
			want = max(want, s)
		}
		wantMost(t, q, want)
	}
}

// P8.2: what is set is got, nothing else is another one, and set again as it was the quad is as it was.
func TestOneCell(t *testing.T) {
	r := numberer(12)
	for _, q := range quads(3, 120, 4) {
		all := states(q)
		for range 6 {
			at, s := r.near(12), r.state()
			got := wantSet(t, q, at, s)
			wantAll(t, got, withState(all, at, s))
			wantNodes(t, got, of(at.x), of(at.y), all[at], q.Nodes)
			wantNodes(t, q, of(at.x), of(at.y), all[at], q.Nodes)
			wantNodes(t, got, of(at.x), of(at.y), s, got.Nodes)
		}
	}
}

// P8.2: so it is of cells anywhere, and of quads of any level.
func TestOneFarCell(t *testing.T) {
	for i, a := range edges() {
		for k, b := range edges() {
			if (i*5+k)%7 != 0 || !fits(a) || !fits(b) {
				continue
			}
			one := api.Cell{X: bigOf(a), Y: bigOf(b), State: byte(1 + i)}
			two := api.Cell{X: bigOf(b), Y: bigOf(new(mathbig.Int).Not(a)), State: byte(101 + k)}
			q, _ := cells.Of(one)
			want, _ := cells.Of(one, two)
			wantNodes(t, q, two.X, two.Y, two.State, want.Nodes)
			wantGet(t, want, two.X, two.Y, two.State)
			wantGet(t, want, one.X, one.Y, one.State)
			wantNodes(t, want, two.X, two.Y, 0, q.Nodes)
		}
	}
}

// P8.2: in whatever order cells are set, and whatever they were between, the quad is that of the cells; as they are put out again it comes back, too.
func TestOneByOne(t *testing.T) {
	r := numberer(21)
	for _, wide := range []int{1, 2, 3, 8, 40, 1000, 1 << 31, 1 << 40} {
		for range 12 {
			var q api.Quad
			var quads []api.Quad
			var l []api.Cell
			for range 40 {
				at, s := r.near(wide), r.state()
				l = append(l, api.Cell{X: of(at.x), Y: of(at.y), State: s})
				next, e := look.Set(q, of(at.x), of(at.y), s)
				want, _ := cells.Of(l...)
				if e != api.OK || !slices.Equal(next.Nodes, want.Nodes) {
					t.Fatalf("cells up to %d away, set one by one: got %v, %d, want %v", wide, next, e, want)
				}
				quads, q = append(quads, q), next
			}
			for n := len(l) - 1; n >= 0; n-- {
				was := look.Get(quads[n], l[n].X, l[n].Y)
				wantNodes(t, q, l[n].X, l[n].Y, was, quads[n].Nodes)
				q = quads[n]
			}
		}
	}
}

// roomy is x with spare room that is all marked, and all its room.
func roomy(x api.Big) (api.Big, []uint32) {
	all := append(slices.Clone(x.Limbs), 0xabcdef, 0xabcdef, 0xabcdef)
	return api.Big{Neg: x.Neg, Limbs: all[:len(x.Limbs)]}, all
}

// P8.1: what was handed in stays as it was, its spare room too, and whoever writes into the answer doesn't change it.
func TestLeftAsItWas(t *testing.T) {
	spare := nd(9, 9, 9, 9, 9)
	numbers := []*mathbig.Int{whole(0), whole(-1), whole(1), whole(-9), pow(32, 0), minus(pow(64, 0)), pow(far, -1), minus(pow(far, 0)), pow(far, 0), pow(1344, 0), minus(pow(1344, 0))}
	for i, was := range append(quads(8, 150, 6), quad(tower(nd(1, 1, 1, 1, 1), 100, 4)...)) {
		given := append(slices.Clone(was.Nodes), spare)
		for range 1400 {
			// There is room for all that may be grown.
			given = append(given, spare)
		}
		givenWas := slices.Clone(given)
		q := api.Quad{Nodes: given[:len(was.Nodes)]}
		for k := range numbers {
			x, xAll := roomy(bigOf(numbers[k]))
			y, yAll := roomy(bigOf(numbers[(k*k+i)%len(numbers)]))
			xWas, yWas := slices.Clone(xAll), slices.Clone(yAll)
			look.Get(q, x, y)
			look.Most(q)
			for _, s := range []byte{0, 1, look.Get(q, x, y)} {
				got, _ := look.Set(q, x, y, s)
				for n := range got.Nodes[:cap(got.Nodes)] {
					got.Nodes[:cap(got.Nodes)][n] = nd(-7, -7, -7, -7, -7)
				}
				if !slices.Equal(given, givenWas) {
					t.Fatalf("Set(%v, %v, %v, %d) changed it", was, x, y, s)
				}
			}
			if !slices.Equal(xAll, xWas) || !slices.Equal(yAll, yWas) {
				t.Fatalf("limbs were changed: %v, %v", xAll, yAll)
			}
		}
	}
}

// P8.1: a call hangs on its arguments alone: asked once more, and between others, it answers the same.
func TestOnceMore(t *testing.T) {
	q, p := quad(nd(1, 1, 0, 0, 2)), quad(nd(1, 3, 0, 0, 2), nd(2, 1, 0, 0, 1))
	for range 3 {
		wantGet(t, q, of(-1), of(-1), 1)
		wantGet(t, p, of(-2), of(-2), 3)
		wantNodes(t, q, of(0), of(0), 0, quad(nd(1, 1, 0, 0, 0)).Nodes)
		wantNodes(t, p, of(1), of(1), 0, quad(nd(1, 3, 0, 0, 2), nd(1, 3, 0, 0, 0), nd(2, 1, 0, 0, 2)).Nodes)
		wantNodes(t, q, of(0), of(0), 2, q.Nodes)
		wantLimit(t, q, of(0), bigOf(pow(math.MaxUint8+far, 0)), 1)
		wantMost(t, q, 2)
		wantMost(t, p, 3)
	}
}
