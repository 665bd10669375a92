package box_test

import (
	"math"
	mathbig "math/big"
	"slices"
	"testing"

	"glider/api"
	"glider/box"
	"glider/canon"
	"glider/cells"
	"glider/look"
	"glider/node"
)

// Cells may be from -2^far to below 2^far.
const far = 1328

// place is a column and a row.
type place struct{ x, y int }

// area is a box, told apart from the package under test.
type area struct{ x, y, w, h *mathbig.Int }

// whole is a number of math/big.
func whole(n int) *mathbig.Int { return mathbig.NewInt(int64(n)) }

// pow is 2^n, and d.
func pow(n, d int) *mathbig.Int {
	return new(mathbig.Int).Add(new(mathbig.Int).Lsh(whole(1), uint(n)), whole(d))
}

// minus is -n.
func minus(n *mathbig.Int) *mathbig.Int { return new(mathbig.Int).Neg(n) }

// plus is n, and d.
func plus(n *mathbig.Int, d int) *mathbig.Int { return new(mathbig.Int).Add(n, whole(d)) }

// bigOf is the one big number that may be and that n is.
func bigOf(n *mathbig.Int) api.Big {
	x := api.Big{Neg: n.Sign() < 0}
	for n = new(mathbig.Int).Abs(n); n.Sign() > 0; n.Rsh(n, 32) {
		x.Limbs = append(x.Limbs, uint32(n.Uint64()))
	}
	return x
}

// number is what a big number is.
func number(x api.Big) *mathbig.Int {
	n := new(mathbig.Int)
	for _, limb := range slices.Backward(x.Limbs) {
		n.Or(n.Lsh(n, 32), whole(int(limb)))
	}
	if x.Neg {
		n.Neg(n)
	}
	return n
}

// of is the big number of an int.
func of(n int) api.Big { return bigOf(whole(n)) }

// nd is a node, as it is told in words.
func nd(level, a, b, c, d int) api.Node {
	return api.Node{Level: level, Kids: [4]int{a, b, c, d}}
}

// quad are nodes, one behind the other.
func quad(l ...api.Node) api.Quad { return api.Quad{Nodes: l} }

// tower is a node of each level from that leaf up to level, of which each has the one below it as those of its quarters that are told.
func tower(leaf api.Node, level int, quarters ...int) api.Quad {
	l := []api.Node{leaf}
	for len(l) < level {
		x := nd(len(l)+1, 0, 0, 0, 0)
		for _, i := range quarters {
			x.Kids[i] = len(l)
		}
		l = append(l, x)
	}
	return quad(l...)
}

// quadOf is the quad of cells, which may be all.
func quadOf(t *testing.T, l ...api.Cell) api.Quad {
	t.Helper()
	q, e := cells.Of(l...)
	if e != api.OK {
		t.Fatalf("%v: %d", l, e)
	}
	return q
}

// at is a cell of state 1.
func at(x, y *mathbig.Int) api.Cell {
	return api.Cell{X: bigOf(x), Y: bigOf(y), State: 1}
}

// near is a cell near 0, 0.
func near(x, y int) api.Cell { return at(whole(x), whole(y)) }

// places are those of a quad's cells whose states aren't 0, told apart from the package under test; the quad isn't too great for that.
func places(q api.Quad) []place {
	var got []place
	var put func(x api.Node, left, above int)
	put = func(x api.Node, left, above int) {
		side := 1 << x.Level / 2
		for i, kid := range x.Kids {
			p := place{left + i%2*side, above + i/2*side}
			switch {
			case kid == 0:
			case x.Level == 1:
				got = append(got, p)
			default:
				put(q.Nodes[kid-1], p.x, p.y)
			}
		}
	}
	if len(q.Nodes) > 0 {
		root := q.Nodes[len(q.Nodes)-1]
		half := 1 << root.Level / 2
		put(root, -half, -half)
	}
	return got
}

// around is the box around places, one or more.
func around(all []place) area {
	from, to := all[0], all[0]
	for _, p := range all {
		from = place{min(from.x, p.x), min(from.y, p.y)}
		to = place{max(to.x, p.x), max(to.y, p.y)}
	}
	return small(from.x, from.y, to.x-from.x+1, to.y-from.y+1)
}

// small is a box by ints.
func small(x, y, w, h int) area { return area{whole(x), whole(y), whole(w), whole(h)} }

// ends is the box around two cells.
func ends(x1, y1, x2, y2 *mathbig.Int) area {
	x, w := between(x1, x2)
	y, h := between(y1, y2)
	return area{x, y, w, h}
}

// between is the lesser one of two numbers, and how many there are from it to the other one.
func between(a, b *mathbig.Int) (from, size *mathbig.Int) {
	if a.Cmp(b) > 0 {
		a, b = b, a
	}
	return a, new(mathbig.Int).Add(new(mathbig.Int).Sub(b, a), whole(1))
}

// numberer answers numbers that look like chance, the same ones each time.
type numberer uint32

// below is the next one, from 0 to below n.
func (r *numberer) below(n int) int {
	*r = *r*1664525 + 1013904223
	return int(*r>>8) % n
}

// quads are as many quads with nodes as told, or fewer, put together from loose nodes of levels up to most; of each one's Kids so many of four are 0.
func quads(seed numberer, count, most, bare int) []api.Quad {
	r := seed
	var all []api.Quad
	for range count {
		var l []api.Node
		for range r.below(30) + 1 {
			x := api.Node{Level: r.below(most) + 1}
			for i := range x.Kids {
				switch {
				case r.below(4) < bare:
				case x.Level == 1:
					x.Kids[i] = r.below(256)
				default:
					for n, y := range l {
						if y.Level == x.Level-1 && r.below(2) == 0 {
							x.Kids[i] = n + 1
						}
					}
				}
			}
			l = append(l, x)
		}
		if q, _ := canon.Of(l, len(l)); len(q.Nodes) > 0 {
			all = append(all, q)
		}
	}
	return all
}

// many are quads of all kinds.
func many() []api.Quad {
	var all []api.Quad
	for most := 1; most <= 8; most++ {
		for bare := range 4 {
			all = append(all, quads(numberer(most*4+bare), 120, most, bare)...)
		}
	}
	return all
}

// edges are numbers at the borders of limbs, and at the ends of where cells may be.
func edges() []*mathbig.Int {
	l := []*mathbig.Int{whole(0), whole(1), whole(-1), whole(2), whole(-2), whole(-3), whole(1000), minus(pow(far, 0)), minus(pow(far, -1)), pow(far, -1), pow(far, -2)}
	for _, n := range []int{31, 32, 33, 63, 64, 65, 96, 1327} {
		for d := -1; d <= 1; d++ {
			l = append(l, pow(n, d), minus(pow(n, d)))
		}
	}
	return l
}

// like tells whether a big number is n, in the one way in which it may be.
func like(x api.Big, n *mathbig.Int) bool {
	want := bigOf(n)
	return x.Neg == want.Neg && slices.Equal(x.Limbs, want.Limbs)
}

// wantBox asks for a box, and whether it is within as much as it has, and a bit less and more.
func wantBox(t *testing.T, q api.Quad, want area) {
	t.Helper()
	b, ok := box.Of(q)
	if !ok || !like(b.X, want.x) || !like(b.Y, want.y) || !like(b.W, want.w) || !like(b.H, want.h) {
		t.Fatalf("Of(of %d nodes, level %d): got %v, %v, want %v", len(q.Nodes), node.Level(q), b, ok, want)
	}
	wide := want.w
	if want.h.Cmp(wide) > 0 {
		wide = want.h
	}
	mosts := []int{math.MinInt, -1, 0, math.MaxInt}
	if wide.IsInt64() {
		n := int(wide.Int64())
		mosts = append(mosts, n-1, n, -n, n/2, n-1+math.MinInt)
		if n < math.MaxInt {
			mosts = append(mosts, n+1)
		}
	}
	for _, most := range mosts {
		if got := box.Within(q, most); got != (wide.Cmp(whole(most)) <= 0) {
			t.Fatalf("Within(of the box %v, %d): got %v", want, most, got)
		}
	}
}

// P9.1: Of, as told in words.
func TestOf(t *testing.T) {
	wantBox(t, quadOf(t, near(2, 3), near(5, 3)), small(2, 3, 4, 1))
	wantBox(t, quadOf(t, near(0, 0)), small(0, 0, 1, 1))
	wantBox(t, quadOf(t, near(-1, -1), near(0, 0)), small(-1, -1, 2, 2))
	wantBox(t, quadOf(t, near(1, 0), near(2, 1), near(0, 2), near(1, 2), near(2, 2)), small(0, 0, 3, 3))
	wantBox(t, quadOf(t, near(-7, 4), near(-7, -9)), small(-7, -9, 1, 14))
	wantBox(t, quadOf(t, near(0, 0), near(1000, 0)), small(0, 0, 1001, 1))
	// What is of state 0 is nowhere.
	wantBox(t, quadOf(t, near(3, 3), api.Cell{X: of(90), Y: of(-90)}), small(3, 3, 1, 1))
}

// P9.1: without a cell there is no box, and each most from 0 on will do.
func TestNone(t *testing.T) {
	for _, q := range []api.Quad{{}, quad([]api.Node{}...), quad([]api.Node{nd(1, 1, 1, 1, 1)}[:0]...)} {
		if b, ok := box.Of(q); ok || !box.Same(b, api.Box{}) || len(b.X.Limbs)+len(b.Y.Limbs)+len(b.W.Limbs)+len(b.H.Limbs) > 0 {
			t.Errorf("Of no nodes: got %v, %v", b, ok)
		}
		for _, most := range []int{math.MinInt, -1 << 32, -2, -1, 0, 1, 2, api.MaxBox, 1 << 32, math.MaxInt} {
			if got := box.Within(q, most); got != (most >= 0) {
				t.Errorf("Within(no nodes, %d): got %v", most, got)
			}
		}
	}
}

// P9.1: Of a leaf, of whatever states.
func TestLeaf(t *testing.T) {
	for _, s := range []int{1, 2, 3, 4, 127, 128, 255} {
		for kinds := 1; kinds < 16; kinds++ {
			leaf := nd(1, 0, 0, 0, 0)
			for i := range leaf.Kids {
				if kinds>>i&1 == 1 {
					leaf.Kids[i] = s
				}
			}
			wantBox(t, quad(leaf), around(places(quad(leaf))))
		}
	}
	wantBox(t, quad(nd(1, 0, 3, 0, 255)), small(0, -1, 1, 2))
	wantBox(t, quad(nd(1, 0, 0, 255, 3)), small(-1, 0, 2, 1))
}

// P9.1: Of each two cells near the middle.
func TestTwo(t *testing.T) {
	for x1 := -5; x1 <= 5; x1++ {
		for y1 := -5; y1 <= 5; y1++ {
			for x2 := -5; x2 <= 5; x2++ {
				for y2 := -5; y2 <= 5; y2++ {
					q := quadOf(t, near(x1, y1), near(x2, y2))
					wantBox(t, q, around([]place{{x1, y1}, {x2, y2}}))
				}
			}
		}
	}
}

// P9.1: Of many quads, some full, some nearly bare.
func TestMany(t *testing.T) {
	for _, q := range many() {
		wantBox(t, q, around(places(q)))
	}
}

// P9.1: Of single cells, and of two, at the borders of limbs and at the ends of where cells may be.
func TestFar(t *testing.T) {
	all := edges()
	for i, x := range all {
		for k, y := range all {
			if (i*7+k)%5 == 0 {
				wantBox(t, quadOf(t, at(x, y)), ends(x, y, x, y))
			}
			other := all[(i*i+5*k)%len(all)]
			if (i+k)%4 == 0 {
				wantBox(t, quadOf(t, at(x, y), at(y, other)), ends(x, y, y, other))
			}
		}
	}
	first, last := minus(pow(far, 0)), pow(far, -1)
	wantBox(t, quadOf(t, at(first, last), at(last, first)), area{first, first, pow(far+1, 0), pow(far+1, 0)})
	wantBox(t, quadOf(t, at(first, last), at(first, first)), area{first, first, whole(1), pow(far+1, 0)})
	wantBox(t, quadOf(t, at(first, last), at(last, last)), area{first, last, pow(far+1, 0), whole(1)})
}

// P9.1: Of full squares of any level, and without a cell, a row or a column at a side.
func TestFull(t *testing.T) {
	for _, level := range []int{1, 2, 3, 31, 32, 33, 63, 64, 65, 90, 96, 97, 700, 1328, 1329} {
		first, side := minus(pow(level-1, 0)), pow(level, 0)
		q := tower(nd(1, 1, 2, 3, 4), level, 0, 1, 2, 3)
		want := area{first, first, side, side}
		wantBox(t, q, want)
		for _, x := range []*mathbig.Int{first, whole(-1), whole(0), pow(level-1, -1)} {
			less, e := look.Set(q, bigOf(x), bigOf(first), 0)
			if e != api.OK {
				t.Fatal(e)
			}
			if level > 1 {
				wantBox(t, less, want)
			}
		}
		if level == 1 {
			continue
		}
		// Each second column, or row, is bare: so the first one is, or the last one.
		wantBox(t, tower(nd(1, 0, 5, 0, 5), level, 0, 1, 2, 3), area{plus(first, 1), first, pow(level, -1), side})
		wantBox(t, tower(nd(1, 5, 0, 5, 0), level, 0, 1, 2, 3), area{first, first, pow(level, -1), side})
		wantBox(t, tower(nd(1, 0, 0, 5, 5), level, 0, 1, 2, 3), area{first, plus(first, 1), side, pow(level, -1)})
		wantBox(t, tower(nd(1, 5, 5, 0, 0), level, 0, 1, 2, 3), area{first, first, side, pow(level, -1)})
	}
}

// P9.1: Of leaves in a far corner, at a far side, and from corner to corner.
func TestTowers(t *testing.T) {
	for _, level := range []int{2, 3, 32, 33, 64, 65, 1329} {
		first, last, side := minus(pow(level-1, 0)), pow(level-1, -1), pow(level, 0)
		inner := pow(level-1, -2)
		for i, want := range []area{
			{first, first, whole(2), whole(2)},
			{inner, first, whole(2), whole(2)},
			{first, inner, whole(2), whole(2)},
			{inner, inner, whole(2), whole(2)},
		} {
			wantBox(t, tower(nd(1, 1, 1, 1, 1), level, i), want)
		}
		wantBox(t, tower(nd(1, 1, 1, 1, 1), level, 0, 1), area{first, first, side, whole(2)})
		wantBox(t, tower(nd(1, 1, 1, 1, 1), level, 2, 3), area{first, inner, side, whole(2)})
		wantBox(t, tower(nd(1, 1, 1, 1, 1), level, 0, 2), area{first, first, whole(2), side})
		wantBox(t, tower(nd(1, 1, 1, 1, 1), level, 1, 3), area{inner, first, whole(2), side})
		wantBox(t, tower(nd(1, 1, 0, 0, 0), level, 0, 3), area{first, first, pow(level, -1), pow(level, -1)})
		wantBox(t, tower(nd(1, 0, 1, 0, 0), level, 1, 2), area{plus(first, 1), first, pow(level, -1), pow(level, -1)})
		wantBox(t, tower(nd(1, 0, 0, 0, 1), level, 0, 1, 2), area{plus(first, 1), plus(first, 1), pow(level, -1), pow(level, -1)})
		wantBox(t, tower(nd(1, 0, 0, 0, 1), level, 3), area{last, last, whole(1), whole(1)})
	}
}

// P9.1: Of squares whose quarters are shared in more ways than could be gone one by one, two of each level.
func TestShared(t *testing.T) {
	l := []api.Node{nd(1, 0, 1, 0, 0), nd(1, 0, 2, 0, 1)}
	for level := 2; level <= 1329; level++ {
		n := len(l)
		l = append(l, nd(level, n-1, n, n, n-1), nd(level, n, n-1, n-1, n))
	}
	q, e := canon.Of(l, len(l))
	if e != api.OK || node.Level(q) != 1329 {
		t.Fatal("not a quad")
	}
	first := minus(pow(far, 0))
	wantBox(t, q, area{plus(first, 1), first, pow(far+1, -1), pow(far+1, 0)})
}

// P9.1: Of cells of which several lie in the outermost half of the root, and one of them, whichever it is, outermost.
func TestDeep(t *testing.T) {
	wantBox(t, quadOf(t, near(-5, -8), near(-7, 7), near(7, -7), near(4, 3)), small(-7, -8, 15, 16))
	for n := range 16 {
		// A cell a row, each further to the west, or to the east.
		var west, east []api.Cell
		for y := range n + 1 {
			west = append(west, near(20-2*y, y*3), near(50, y))
			east = append(east, near(y*y-9, -y), near(-9, y))
		}
		wantBox(t, quadOf(t, west...), small(20-2*n, 0, 31+2*n, 3*n+1))
		wantBox(t, quadOf(t, east...), small(-9, -n, n*n+1, 2*n+1))
	}
}

// P9.1: Within asks for W and for H, each by itself, and for the whole of each.
func TestWithin(t *testing.T) {
	wide, high := quadOf(t, near(-3, 1), near(3, 0)), quadOf(t, near(1, -3), near(0, 3))
	for _, q := range []api.Quad{wide, high, quadOf(t, near(-3, -3), near(3, 3))} {
		for most, want := range map[int]bool{math.MinInt: false, -7: false, -1: false, 0: false, 2: false, 6: false, 7: true, 8: true, 1 << 33: true, math.MaxInt: true} {
			if got := box.Within(q, most); got != want {
				t.Errorf("Within(%v, %d): got %v", q, most, got)
			}
		}
	}
	for _, n := range []int{1, 2, 999, 1000, 1001, 1 << 31, 1<<32 - 1, 1 << 32, 1<<32 + 1, 1 << 62, math.MaxInt} {
		wantBox(t, quadOf(t, near(0, 0), near(n-1, 0)), small(0, 0, n, 1))
		wantBox(t, quadOf(t, near(0, 0), near(0, 1-n)), small(0, 1-n, 1, n))
	}
	// Beyond all ints, also where the lowest bits are few.
	for _, n := range []*mathbig.Int{pow(63, 0), pow(63, 1), pow(64, 0), pow(64, 1), pow(64, 5), pow(96, 3), pow(far, 0)} {
		wantBox(t, quadOf(t, near(0, 0), at(plus(n, -1), whole(0))), area{whole(0), whole(0), n, whole(1)})
		wantBox(t, quadOf(t, near(0, 0), at(whole(0), plus(n, -1))), area{whole(0), whole(0), whole(1), n})
	}
}

// numbers are big numbers of which no two are the same, also some that may not be.
func numbers() []api.Big {
	return []api.Big{
		{},
		{Neg: true},
		{Limbs: []uint32{0}},
		{Neg: true, Limbs: []uint32{0}},
		{Limbs: []uint32{0, 0}},
		{Limbs: []uint32{1}},
		{Neg: true, Limbs: []uint32{1}},
		{Limbs: []uint32{2}},
		{Limbs: []uint32{1, 0}},
		{Limbs: []uint32{0, 1}},
		{Limbs: []uint32{1, 1}},
		{Limbs: []uint32{1, 1, 1}},
		{Limbs: []uint32{1, 2, 1}},
		{Limbs: []uint32{math.MaxUint32}},
	}
}

// P9.1: Same, of boxes that are unlike in one number, or in none.
func TestSame(t *testing.T) {
	fields := []func(b *api.Box) *api.Big{
		func(b *api.Box) *api.Big { return &b.X },
		func(b *api.Box) *api.Big { return &b.Y },
		func(b *api.Box) *api.Big { return &b.W },
		func(b *api.Box) *api.Big { return &b.H },
	}
	for i, x := range numbers() {
		for k, y := range numbers() {
			for f, field := range fields {
				a := api.Box{X: of(5), Y: of(-6), W: of(7), H: of(8)}
				b := api.Box{X: of(5), Y: of(-6), W: of(7), H: of(8)}
				*field(&a), *field(&b) = x, y
				if got := box.Same(a, b); got != (i == k) {
					t.Errorf("Same, in field %d %v and %v: got %v", f, x, y, got)
				}
			}
		}
	}
	// Numbers of other fields don't stand for one another.
	if box.Same(api.Box{X: of(1), Y: of(2)}, api.Box{X: of(2), Y: of(1)}) || box.Same(api.Box{W: of(1)}, api.Box{H: of(1)}) {
		t.Error("Same, of numbers in each other's place")
	}
	if !box.Same(api.Box{}, api.Box{X: api.Big{Limbs: []uint32{}}, H: api.Big{Limbs: []uint32{}}}) {
		t.Error("Same, of limbs that are nil, and empty")
	}
}

// P9.2: each cell is in the box, and one is in its first and last column and row each.
func TestJustAround(t *testing.T) {
	all := many()
	for i, x := range edges() {
		for k, y := range edges() {
			if (i+k)%5 == 0 {
				all = append(all, quadOf(t, at(x, y), at(y, x), near(i-k, k)))
			}
		}
	}
	for _, q := range all {
		b, ok := box.Of(q)
		if !ok {
			t.Fatalf("%v: no box", q)
		}
		from := [2]*mathbig.Int{number(b.X), number(b.Y)}
		to := [2]*mathbig.Int{plus(number(b.W).Add(number(b.W), from[0]), -1), plus(number(b.H).Add(number(b.H), from[1]), -1)}
		var met [2][2]bool
		l, _ := cells.List(q, math.MaxInt)
		for _, c := range l {
			for axis, n := range [2]*mathbig.Int{number(c.X), number(c.Y)} {
				low, high := n.Cmp(from[axis]), n.Cmp(to[axis])
				if low < 0 || high > 0 {
					t.Fatalf("%v: the cell %v isn't in the box %v", q, c, b)
				}
				met[axis][0] = met[axis][0] || low == 0
				met[axis][1] = met[axis][1] || high == 0
			}
		}
		if met != [2][2]bool{{true, true}, {true, true}} {
			t.Fatalf("%v: at the sides of the box %v there is none: %v", q, b, met)
		}
	}
}

// P9.1: what was handed in stays as it was, its spare room too, and no two numbers of an answer share their limbs.
func TestLeftAsItWas(t *testing.T) {
	spare := nd(9, 9, 9, 9, 9)
	all := append(quads(8, 150, 6, 1), tower(nd(1, 1, 1, 1, 1), 100, 0, 1, 2, 3), tower(nd(1, 1, 1, 1, 1), 1329, 0, 3))
	for _, was := range all {
		given := append(slices.Clone(was.Nodes), spare, spare, spare)
		givenWas := slices.Clone(given)
		q := api.Quad{Nodes: given[:len(was.Nodes)]}
		want, _ := box.Of(was)
		for i := range 4 {
			b, ok := box.Of(q)
			box.Within(q, 5)
			if !ok || !box.Same(b, want) || !slices.Equal(given, givenWas) {
				t.Fatalf("Of(%v) changed it, or what it answers", was)
			}
			parts := []*api.Big{&b.X, &b.Y, &b.W, &b.H}
			room := parts[i].Limbs[:cap(parts[i].Limbs)]
			for n := range room {
				room[n] ^= 0xabcdef
			}
			parts[i].Limbs = []*api.Big{&want.X, &want.Y, &want.W, &want.H}[i].Limbs
			if !box.Same(b, want) {
				t.Fatalf("Of(%v): two of its numbers share limbs", was)
			}
		}
	}
}

// P9.1: Same leaves the limbs as they were, with their spare room.
func TestSameLeaves(t *testing.T) {
	limbs := []uint32{1, 2, 0, 0, 7, 7}
	x := api.Big{Limbs: limbs[:4]}
	b := api.Box{X: x, Y: x, W: x, H: x}
	if !box.Same(b, b) || box.Same(b, api.Box{}) || !slices.Equal(limbs, []uint32{1, 2, 0, 0, 7, 7}) {
		t.Errorf("got %v", limbs)
	}
}
