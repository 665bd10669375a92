package cells_test

import (
	"math"
	mathbig "math/big"
	"slices"
	"testing"

	"glider/api"
	"glider/canon"
	"glider/cells"
	"glider/node"
)

// top is the greatest limb; cells may be from -2^far to below 2^far.
const (
	top = math.MaxUint32
	far = 1328
)

// place is a column and a row.
type place struct{ x, y int }

// whole is a number of math/big.
func whole(n int) *mathbig.Int { return mathbig.NewInt(int64(n)) }

// pow is 2^n, and d.
func pow(n, d int) *mathbig.Int {
	return new(mathbig.Int).Add(new(mathbig.Int).Lsh(whole(1), uint(n)), whole(d))
}

// minus is -n.
func minus(n *mathbig.Int) *mathbig.Int { return new(mathbig.Int).Neg(n) }

// bigOf is the one big number that may be and that n is.
func bigOf(n *mathbig.Int) api.Big {
	x := api.Big{Neg: n.Sign() < 0}
	for n = new(mathbig.Int).Abs(n); n.Sign() > 0; n.Rsh(n, 32) {
		x.Limbs = append(x.Limbs, uint32(n.Uint64()))
	}
	return x
}

// number is what a big number is.
func number(x api.Big) *mathbig.Int {
	n := new(mathbig.Int)
	for _, limb := range slices.Backward(x.Limbs) {
		n.Lsh(n, 32)
		n.Or(n, whole(int(limb)))
	}
	if x.Neg {
		n.Neg(n)
	}
	return n
}

// cell is a cell near 0, 0; farCell one anywhere.
func cell(x, y int, state byte) api.Cell { return farCell(whole(x), whole(y), state) }

func farCell(x, y *mathbig.Int, state byte) api.Cell {
	return api.Cell{X: bigOf(x), Y: bigOf(y), State: state}
}

// nd is a node, as it is told in words.
func nd(level, a, b, c, d int) api.Node {
	return api.Node{Level: level, Kids: [4]int{a, b, c, d}}
}

// quad are nodes, one behind the other.
func quad(l ...api.Node) api.Quad { return api.Quad{Nodes: l} }

// like tells whether two lists have the same cells, in the same order, field by field.
func like(a, b []api.Cell) bool {
	return slices.EqualFunc(a, b, func(x, y api.Cell) bool {
		return likeBig(x.X, y.X) && likeBig(x.Y, y.Y) && x.State == y.State
	})
}

func likeBig(x, y api.Big) bool { return x.Neg == y.Neg && slices.Equal(x.Limbs, y.Limbs) }

// states are the states of a quad's cells that aren't 0, by their places, told apart from the package under test; the quad isn't too great for that.
func states(q api.Quad) map[place]byte {
	got := map[place]byte{}
	var put func(x api.Node, left, above int)
	put = func(x api.Node, left, above int) {
		side := 1 << x.Level / 2
		for i, kid := range x.Kids {
			at := place{left + i%2*side, above + i/2*side}
			switch {
			case kid == 0:
			case x.Level == 1:
				got[at] = byte(kid)
			default:
				put(q.Nodes[kid-1], at.x, at.y)
			}
		}
	}
	if len(q.Nodes) > 0 {
		root := q.Nodes[len(q.Nodes)-1]
		half := 1 << root.Level / 2
		put(root, -half, -half)
	}
	return got
}

// state is that of one cell of a quad of any level, told apart from the package under test.
func state(q api.Quad, x, y *mathbig.Int) int {
	if len(q.Nodes) == 0 {
		return 0
	}
	root := q.Nodes[len(q.Nodes)-1]
	half := pow(root.Level-1, 0)
	x, y = new(mathbig.Int).Add(x, half), new(mathbig.Int).Add(y, half)
	if x.Sign() < 0 || y.Sign() < 0 || x.BitLen() > root.Level || y.BitLen() > root.Level {
		return 0
	}
	kid := len(q.Nodes)
	for level := root.Level; level > 0 && kid > 0; level-- {
		kid = q.Nodes[kid-1].Kids[x.Bit(level-1)+2*y.Bit(level-1)]
	}
	return kid
}

// standing are the states that aren't 0 when the cells were set one behind the other; all are near 0, 0.
func standing(l []api.Cell) map[place]byte {
	got := map[place]byte{}
	for _, c := range l {
		at := place{int(number(c.X).Int64()), int(number(c.Y).Int64())}
		got[at] = c.State
		if c.State == 0 {
			delete(got, at)
		}
	}
	return got
}

// inOrder are cells by rows, then by columns.
func inOrder(all map[place]byte) []api.Cell {
	var at []place
	for p := range all {
		at = append(at, p)
	}
	slices.SortFunc(at, func(a, b place) int {
		if a.y != b.y {
			return a.y - b.y
		}
		return a.x - b.x
	})
	var l []api.Cell
	for _, p := range at {
		l = append(l, cell(p.x, p.y, all[p]))
	}
	return l
}

// sameStates tells whether the states are the same, at the same places.
func sameStates(a, b map[place]byte) bool {
	for at, s := range a {
		if b[at] != s {
			return false
		}
	}
	return len(a) == len(b)
}

// numberer answers numbers that look like chance, the same ones each time.
type numberer uint32

// below is the next one, from 0 to below n.
func (r *numberer) below(n int) int {
	*r = *r*1664525 + 1013904223
	return int(*r>>8) % n
}

// between is one from -2^bits to below 2^bits.
func (r *numberer) between(bits int) *mathbig.Int {
	n := new(mathbig.Int)
	for range bits + 1 {
		n.Lsh(n, 1).Add(n, whole(r.below(2)))
	}
	return n.Sub(n, pow(bits, 0))
}

// some are cells near 0, 0, as many as told, up to wide from there, places more than once and states 0 among them.
func (r *numberer) some(count, wide, states int) []api.Cell {
	var l []api.Cell
	for range count {
		l = append(l, cell(r.below(2*wide)-wide, r.below(2*wide)-wide, byte(r.below(states+1))))
	}
	return l
}

// lists are lists of cells of many kinds.
func lists() [][]api.Cell {
	r := numberer(3)
	all := [][]api.Cell{nil, {}}
	for _, count := range []int{1, 2, 3, 5, 10, 40, 200} {
		for _, wide := range []int{1, 2, 3, 8, 50, 1000, 1 << 20, 1<<31 + 2, 1 << 40} {
			for _, states := range []int{1, 2, 255} {
				all = append(all, r.some(count, wide, states), r.some(count, wide, states))
			}
		}
	}
	return all
}

// quads are quads of many kinds, put together from loose nodes.
func quads() []api.Quad {
	r := numberer(9)
	var all []api.Quad
	for range 3000 {
		var l []api.Node
		for range r.below(30) + 1 {
			x := api.Node{Level: r.below(7) + 1}
			for i := range x.Kids {
				if x.Level == 1 {
					x.Kids[i] = r.below(2) * r.below(256)
					continue
				}
				for n, y := range l {
					if y.Level == x.Level-1 && r.below(2) == 0 {
						x.Kids[i] = n + 1
					}
				}
			}
			l = append(l, x)
		}
		q, _ := canon.Of(l, len(l))
		all = append(all, q)
	}
	return append(all, api.Quad{})
}

// wantOf asks for the quad of cells near 0, 0: there is just one that may be and has the cells.
func wantOf(t *testing.T, l []api.Cell) api.Quad {
	t.Helper()
	q, e := cells.Of(l...)
	if e != api.OK || !node.Right(q) || !sameStates(states(q), standing(l)) {
		t.Fatalf("Of(%v): got %v, %d", l, q, e)
	}
	return q
}

// wantError asks for the quad of cells that have none.
func wantError(t *testing.T, want api.Errno, l ...api.Cell) {
	t.Helper()
	if q, e := cells.Of(l...); e != want || len(q.Nodes) != 0 {
		t.Errorf("Of(%v): got %d nodes, %d, want %d", l, len(q.Nodes), e, want)
	}
}

// wantFar asks for the quad of cells anywhere of unlike places and states that aren't 0, which are in order, and whether they are found in it.
func wantFar(t *testing.T, l ...api.Cell) api.Quad {
	t.Helper()
	q, e := cells.Of(l...)
	if e != api.OK || !node.Right(q) {
		t.Fatalf("Of(%v): got %v, %d", l, q, e)
	}
	for _, c := range l {
		if got := state(q, number(c.X), number(c.Y)); got != int(c.State) {
			t.Fatalf("Of(%v): the state of %v, %v is %d", l, c.X, c.Y, got)
		}
	}
	wantList(t, q, l)
	return q
}

// wantList asks for the list of a quad, with as many as there are, with more, and with one less; and how many there are.
func wantList(t *testing.T, q api.Quad, want []api.Cell) {
	t.Helper()
	for _, most := range []int{len(want), len(want) + 1, 2*len(want) + 7, math.MaxInt32, math.MaxInt} {
		if got, ok := cells.List(q, most); !ok || !like(got, want) {
			t.Fatalf("List(%v, %d): got %v, %v, want %v", q, most, got, ok, want)
		}
	}
	for _, most := range []int{len(want) - 1, min(len(want)-1, 0), -1, -2, math.MinInt32, math.MinInt} {
		wantTooMany(t, q, most)
	}
	wantCount(t, q, whole(len(want)))
}

// wantTooMany asks for the list of a quad that has more cells.
func wantTooMany(t *testing.T, q api.Quad, most int) {
	t.Helper()
	if got, ok := cells.List(q, most); ok || len(got) != 0 {
		t.Fatalf("List(of %d nodes, %d): got %d cells, %v", len(q.Nodes), most, len(got), ok)
	}
}

// wantCount asks how many there are.
func wantCount(t *testing.T, q api.Quad, want *mathbig.Int) {
	t.Helper()
	if got := cells.Count(q); !likeBig(got, bigOf(want)) {
		t.Fatalf("Count(of %d nodes): got %v, want %v", len(q.Nodes), got, want)
	}
}

// P7.1: Of, as told in words.
func TestOf(t *testing.T) {
	for _, x := range []struct {
		l    []api.Cell
		want api.Quad
	}{
		{nil, quad()},
		{[]api.Cell{cell(0, 0, 0)}, quad()},
		{[]api.Cell{cell(-1, -1, 1), cell(0, 0, 1)}, quad(nd(1, 1, 0, 0, 1))},
		{[]api.Cell{cell(-1, -1, 1), cell(0, -1, 2), cell(-1, 0, 3), cell(0, 0, 255)}, quad(nd(1, 1, 2, 3, 255))},
		{[]api.Cell{cell(0, 0, 255), cell(-1, 0, 3), cell(0, -1, 2), cell(-1, -1, 1)}, quad(nd(1, 1, 2, 3, 255))},
		{[]api.Cell{cell(1, 0, 7)}, quad(nd(1, 0, 7, 0, 0), nd(2, 0, 0, 0, 1))},
		{[]api.Cell{cell(0, 1, 7)}, quad(nd(1, 0, 0, 7, 0), nd(2, 0, 0, 0, 1))},
		{[]api.Cell{cell(-2, -1, 7)}, quad(nd(1, 0, 0, 7, 0), nd(2, 1, 0, 0, 0))},
		{[]api.Cell{cell(-1, -2, 7)}, quad(nd(1, 0, 7, 0, 0), nd(2, 1, 0, 0, 0))},
		{[]api.Cell{cell(1, -2, 7)}, quad(nd(1, 0, 7, 0, 0), nd(2, 0, 1, 0, 0))},
		{[]api.Cell{cell(-2, 1, 7)}, quad(nd(1, 0, 0, 7, 0), nd(2, 0, 0, 1, 0))},
		{[]api.Cell{cell(-2, -2, 1), cell(0, 0, 1), cell(0, 1, 1)}, quad(nd(1, 1, 0, 0, 0), nd(1, 1, 0, 1, 0), nd(2, 1, 0, 0, 2))},
		{[]api.Cell{cell(0, 0, 1), cell(0, -2, 1), cell(-2, 0, 1), cell(-2, -2, 1)}, quad(nd(1, 1, 0, 0, 0), nd(2, 1, 1, 1, 1))},
		{[]api.Cell{cell(-3, 0, 5)}, quad(nd(1, 0, 5, 0, 0), nd(2, 1, 0, 0, 0), nd(3, 0, 0, 2, 0))},
	} {
		if q := wantOf(t, x.l); !slices.Equal(q.Nodes, x.want.Nodes) {
			t.Errorf("Of(%v): got %v, want %v", x.l, q, x.want)
		}
	}
}

// P7.1: Of, List and Count, of each single cell around the middle, beside others that are 0.
func TestEachCell(t *testing.T) {
	for y := -17; y <= 17; y++ {
		for x := -17; x <= 17; x++ {
			only := cell(x, y, byte(1+(x+y)&127))
			wantList(t, wantOf(t, []api.Cell{only}), []api.Cell{only})
			wantList(t, wantOf(t, []api.Cell{cell(y, x, 0), only, cell(30, -40, 0)}), []api.Cell{only})
		}
	}
}

// P7.1: Of, List and Count, of all that three rows of three cells may be, out of three states.
func TestEachFew(t *testing.T) {
	for all := range 3 * 3 * 3 * 3 * 3 * 3 * 3 * 3 * 3 {
		var l []api.Cell
		for i, rest := 0, all; i < 9; i, rest = i+1, rest/3 {
			l = append(l, cell(i%3-2, i/3-1, byte(rest%3)))
		}
		wantList(t, wantOf(t, l), inOrder(standing(l)))
	}
}

// P7.1: Of, List and Count, of many lists, with places more than once and states 0 among them.
func TestMany(t *testing.T) {
	for _, l := range lists() {
		wantList(t, wantOf(t, l), inOrder(standing(l)))
	}
}

// P7.1: of several cells of one place the last one stands, whatever came ahead and between.
func TestLastOne(t *testing.T) {
	for _, at := range []place{{0, 0}, {-1, -1}, {5, -9}, {1 << 40, -1 << 50}} {
		for _, x := range []struct {
			states []byte
			want   byte
		}{
			{[]byte{1, 2}, 2}, {[]byte{2, 1}, 1}, {[]byte{255, 0}, 0}, {[]byte{0, 255}, 255}, {[]byte{1, 0, 3}, 3}, {[]byte{1, 1, 0}, 0}, {[]byte{3, 2, 1, 2, 3, 7}, 7}, {[]byte{0, 0}, 0},
		} {
			var plain, mixed []api.Cell
			for i, s := range x.states {
				plain = append(plain, cell(at.x, at.y, s))
				mixed = append(mixed, cell(at.x, at.y, s), cell(at.y+3, at.x, 9), cell(7, i, 0))
			}
			if got := state(wantOf(t, plain), whole(at.x), whole(at.y)); got != int(x.want) {
				t.Errorf("states %v at %v: got %d", x.states, at, got)
			}
			wantOf(t, mixed)
		}
	}
	// Many times each, so that no sorting leaves those of one place in their order by chance.
	r := numberer(4)
	for range 20 {
		wantOf(t, r.some(2000, 3, 255))
	}
}

// edges are numbers at the borders of limbs, and at the ends of where cells may be.
func edges() []*mathbig.Int {
	l := []*mathbig.Int{whole(0), whole(1), whole(-1), whole(2), whole(-2)}
	for _, n := range []int{31, 32, 33, 63, 64, 65, 96, 1327, far} {
		for d := -2; d <= 2; d++ {
			l = append(l, pow(n, d), minus(pow(n, d)))
		}
	}
	return l
}

// fits tells whether cells may be in that column or row.
func fits(n *mathbig.Int) bool {
	return n.Cmp(minus(pow(far, 0))) >= 0 && n.Cmp(pow(far, 0)) < 0
}

// P7.1: Of, List and Count, of single cells at each edge, up to the ends and beyond them.
func TestEdges(t *testing.T) {
	for i, x := range edges() {
		// The other one is near the middle, opposite, the same, or at another edge.
		for _, y := range []*mathbig.Int{whole(0), whole(-1), x, minus(x), new(mathbig.Int).Not(x), edges()[(i*i+5)%len(edges())]} {
			c := farCell(x, y, 200)
			if !fits(x) || !fits(y) {
				wantError(t, api.ErrLimit, c)
				continue
			}
			q := wantFar(t, c)
			// The least level from whose middle on the cell is so far away.
			level := 1
			for x.Cmp(minus(pow(level-1, 0))) < 0 || x.Cmp(pow(level-1, 0)) >= 0 || y.Cmp(minus(pow(level-1, 0))) < 0 || y.Cmp(pow(level-1, 0)) >= 0 {
				level++
			}
			if got := node.Level(q); got != level || len(q.Nodes) != level {
				t.Errorf("%v, %v: got %d nodes, level %d, want %d", x, y, len(q.Nodes), got, level)
			}
		}
	}
}

// P7.1: List has cells anywhere by rows, then by columns, as numbers are.
func TestOrder(t *testing.T) {
	var at []*mathbig.Int
	for _, n := range edges() {
		if fits(n) {
			at = append(at, n)
		}
	}
	slices.SortFunc(at, (*mathbig.Int).Cmp)
	at = slices.CompactFunc(at, func(a, b *mathbig.Int) bool { return a.Cmp(b) == 0 })
	var l []api.Cell
	for i, y := range at {
		for k, x := range at {
			if (i*7+k*3)%5 == 0 {
				l = append(l, farCell(x, y, byte(1+(i+k)%255)))
			}
		}
	}
	q := wantFar(t, l...)
	slices.Reverse(l)
	if back, e := cells.Of(l...); e != api.OK || !slices.Equal(back.Nodes, q.Nodes) {
		t.Error("in the order of the last one first it is another quad")
	}
}

// wrongs are big numbers that may not be.
func wrongs() []api.Big {
	return []api.Big{
		{Neg: true}, {Neg: true, Limbs: []uint32{}}, {Limbs: []uint32{0}}, {Neg: true, Limbs: []uint32{0}}, {Limbs: []uint32{5, 0}}, {Neg: true, Limbs: []uint32{5, 0}}, {Limbs: []uint32{0, 0, 0}}, {Limbs: make([]uint32, 1000)},
	}
}

// P7.1: ErrArg, wherever the number is that may not be, and whatever else is wrong.
func TestOfWrong(t *testing.T) {
	beyond := farCell(pow(far, 0), whole(0), 1)
	for _, x := range wrongs() {
		for _, s := range []byte{0, 1, 255} {
			for _, c := range []api.Cell{{X: x, State: s}, {Y: x, State: s}, {X: x, Y: x, State: s}, {X: bigOf(whole(-7)), Y: x, State: s}, {X: x, Y: bigOf(pow(far, 0)), State: s}} {
				wantError(t, api.ErrArg, c)
				wantError(t, api.ErrArg, c, c)
				wantError(t, api.ErrArg, cell(0, 0, 1), c)
				wantError(t, api.ErrArg, c, cell(0, 0, 1))
				wantError(t, api.ErrArg, beyond, c)
				wantError(t, api.ErrArg, c, beyond)
				wantError(t, api.ErrArg, cell(1, 1, 1), cell(0, 0, 1), c, cell(5, 5, 5), cell(0, 0, 0), beyond)
			}
		}
	}
	// No limbs are 0, be they nil or empty.
	wantOf(t, []api.Cell{{X: api.Big{Limbs: []uint32{}}, Y: api.Big{}, State: 3}, {X: api.Big{}, Y: api.Big{Limbs: []uint32{}}, State: 4}})
}

// P7.1: ErrLimit, of those cells alone that stand, and whose states aren't 0.
func TestOfLimit(t *testing.T) {
	long := make([]uint32, 2000)
	long[1999] = 1
	for _, n := range []api.Big{bigOf(pow(far, 0)), bigOf(minus(pow(far, 1))), bigOf(pow(far, 1)), bigOf(minus(pow(far+1, 0))), bigOf(pow(10001, 5)), {Limbs: long}, {Neg: true, Limbs: long}} {
		for _, at := range []api.Cell{{X: n}, {Y: n}, {X: n, Y: n}, {X: n, Y: bigOf(minus(pow(far, 0)))}} {
			none, one, two := at, at, at
			one.State, two.State = 1, 255
			near := []api.Cell{cell(3, 3, 3), cell(-9, 0, 200)}
			wantError(t, api.ErrLimit, one)
			wantError(t, api.ErrLimit, append(near, two)...)
			wantError(t, api.ErrLimit, one, near[0])
			wantError(t, api.ErrLimit, none, one)
			wantError(t, api.ErrLimit, one, two)
			wantError(t, api.ErrLimit, one, none, two)
			wantError(t, api.ErrLimit, one, near[0], api.Cell{X: at.Y, Y: api.Big{Limbs: []uint32{77}}})
			for _, l := range [][]api.Cell{{none}, {one, none}, {none, two, one, none}, {one, near[0], none, near[1]}, {near[0], near[1], two, none, none}} {
				q, e := cells.Of(l...)
				want := standing(slices.DeleteFunc(slices.Clone(l), func(c api.Cell) bool { return likeBig(c.X, at.X) && likeBig(c.Y, at.Y) }))
				if e != api.OK || !node.Right(q) || !sameStates(states(q), want) {
					t.Errorf("Of(%v): got %v, %d", l, q, e)
				}
			}
		}
	}
}

// tower is a node of each level from that leaf up to level, of which each has the one below it as its quarters, as many as told.
func tower(leaf api.Node, level, quarters int) []api.Node {
	l := []api.Node{leaf}
	for len(l) < level {
		x := nd(len(l)+1, 0, 0, 0, 0)
		for i := range quarters {
			x.Kids[i] = len(l)
		}
		l = append(l, x)
	}
	return l
}

// P7.1: Count, and List, of quads that have more cells than could be gone one by one.
func TestGreat(t *testing.T) {
	leaves := []api.Node{nd(1, 1, 0, 0, 0), nd(1, 1, 0, 0, 9), nd(1, 3, 2, 1, 0), nd(1, 255, 255, 255, 255)}
	for _, level := range []int{1, 2, 3, 15, 16, 31, 32, 33, 100, 1329} {
		for i, leaf := range leaves {
			for quarters := 1; quarters <= 4; quarters++ {
				count := new(mathbig.Int).Exp(whole(quarters), whole(level-1), nil)
				count.Mul(count, whole(i+1))
				q := api.Quad{Nodes: tower(leaf, level, quarters)}
				wantCount(t, q, count)
				if !count.IsInt64() {
					wantTooMany(t, q, math.MaxInt)
				}
				if count.Cmp(whole(1000)) > 0 {
					wantTooMany(t, q, 1000)
					wantTooMany(t, q, 0)
					wantTooMany(t, q, -1)
				}
			}
		}
	}
}

// P7.1: List, of quads that have just so many more cells than 2^63, 2^64 and 2^128 that these are no numbers of their bits any more.
func TestGreatAndFew(t *testing.T) {
	for _, x := range []struct{ level, quarters, bits int }{{31, 2, 63}, {32, 1, 64}, {64, 1, 128}} {
		l := tower(nd(1, 1, 1, 1, 1), x.level, 4)
		full := len(l)
		few := []api.Node{nd(1, 1, 0, 1, 1)}
		for level := 2; level <= x.level; level++ {
			few = append(few, nd(level, full+len(few), 0, 0, 0))
		}
		l = append(l, few...)
		root := nd(x.level+1, full, full, 0, len(l))
		if x.quarters == 1 {
			root.Kids[1] = 0
		}
		q, e := canon.Of(append(l, root), len(l)+1)
		if e != api.OK {
			t.Fatal("not a loose list")
		}
		wantCount(t, q, pow(x.bits, 3))
		for _, most := range []int{-1, 0, 2, 3, 4, 1000, math.MaxInt32, math.MaxInt - 1, math.MaxInt} {
			wantTooMany(t, q, most)
		}
	}
}

// P7.1: Count, where nodes are shared in more ways than could be gone one by one.
func TestShared(t *testing.T) {
	l := []api.Node{nd(1, 1, 0, 0, 0), nd(1, 2, 0, 3, 1)}
	counts := []*mathbig.Int{whole(1), whole(3)}
	for level := 2; level <= 1328; level++ {
		a, b := counts[len(l)-2], counts[len(l)-1]
		sum := new(mathbig.Int).Add(a, b)
		counts = append(counts, sum, new(mathbig.Int).Add(sum, b))
		n := len(l)
		l = append(l, nd(level, n-1, 0, n, 0), nd(level, n, n-1, 0, n))
	}
	counts = append(counts, new(mathbig.Int).Add(counts[len(l)-2], counts[len(l)-1]))
	l = append(l, nd(1329, len(l)-1, 0, 0, len(l)))
	for n := len(l) - 1; n >= 0; n -= 1 + n/6 {
		q, e := canon.Of(l, n+1)
		if e != api.OK {
			t.Fatal("not a loose list")
		}
		wantCount(t, q, counts[n])
	}
}

// P7.1, P7.2: a tower of whose nodes each is one quarter of the next one is one cell; so is what it was made of.
func TestTowers(t *testing.T) {
	for _, level := range []int{2, 31, 32, 33, 34, 64, 65, 1328, 1329} {
		for i := range 4 {
			l := []api.Node{nd(1, 0, 0, 0, 0)}
			l[0].Kids[i] = 200
			for len(l) < level {
				x := nd(len(l)+1, 0, 0, 0, 0)
				x.Kids[i] = len(l)
				l = append(l, x)
			}
			ends := []*mathbig.Int{minus(pow(level-1, 0)), pow(level-1, -1)}
			want := farCell(ends[i%2], ends[i/2], 200)
			wantList(t, api.Quad{Nodes: l}, []api.Cell{want})
			if q := wantFar(t, want); !slices.Equal(q.Nodes, l) {
				t.Errorf("level %d, quarter %d: got %v", level, i, q)
			}
		}
	}
}

// P7.2: quads come back of their cells.
func TestComeBack(t *testing.T) {
	for _, q := range quads() {
		want := inOrder(states(q))
		wantList(t, q, want)
		back, e := cells.Of(want...)
		if e != api.OK || !slices.Equal(back.Nodes, q.Nodes) {
			t.Fatalf("%v: came back as %v, %d", q, back, e)
		}
	}
}

// P7.2: so they do of cells anywhere, spread and in heaps.
func TestFarComeBack(t *testing.T) {
	r := numberer(6)
	for _, wide := range []int{40, 64, 300, far - 1, far} {
		for _, heap := range []int{1, 3, 30} {
			var l []api.Cell
			known := map[string]bool{}
			for range 12 {
				x, y := r.between(wide), r.between(wide)
				for range heap {
					at := []*mathbig.Int{new(mathbig.Int).Xor(x, whole(r.below(8))), new(mathbig.Int).Xor(y, whole(r.below(8)))}
					if name := at[0].String() + " " + at[1].String(); !known[name] {
						known[name] = true
						l = append(l, farCell(at[0], at[1], byte(1+r.below(255))))
					}
				}
			}
			slices.SortFunc(l, func(a, b api.Cell) int {
				if c := number(a.Y).Cmp(number(b.Y)); c != 0 {
					return c
				}
				return number(a.X).Cmp(number(b.X))
			})
			q := wantFar(t, l...)
			for range 5 {
				r.mix(l)
				if back, e := cells.Of(l...); e != api.OK || !slices.Equal(back.Nodes, q.Nodes) {
					t.Fatalf("in another order it is another quad, %d", e)
				}
			}
		}
	}
}

// mix puts cells in another order.
func (r *numberer) mix(l []api.Cell) {
	for n := len(l); n > 1; n-- {
		k := r.below(n)
		l[n-1], l[k] = l[k], l[n-1]
	}
}

// P7.2: in each order of a few cells of unlike places the quad is the same.
func TestEachOrder(t *testing.T) {
	for _, l := range [][]api.Cell{
		{cell(0, 0, 1), cell(1, 0, 2), cell(0, 1, 3), cell(-1, -1, 4), cell(7, -7, 5)},
		{cell(5, 5, 0), cell(4, 5, 1), cell(5, 4, 1), cell(-100, 3, 0), cell(0, -1, 1)},
		{cell(0, 0, 1), farCell(pow(far, -1), whole(0), 1), farCell(whole(0), pow(far, -1), 1), farCell(minus(pow(far, 0)), minus(pow(far, 0)), 1), farCell(pow(far, 0), whole(3), 0)},
	} {
		want, e := cells.Of(l...)
		if e != api.OK {
			t.Fatal(e)
		}
		var swap func(n int)
		swap = func(n int) {
			if n == len(l) {
				if q, e := cells.Of(l...); e != api.OK || !slices.Equal(q.Nodes, want.Nodes) {
					t.Errorf("Of(%v): got %v, %d, want %v", l, q, e, want)
				}
				return
			}
			for k := n; k < len(l); k++ {
				l[n], l[k] = l[k], l[n]
				swap(n + 1)
				l[n], l[k] = l[k], l[n]
			}
		}
		swap(0)
	}
}

// P7.2: in other orders of many cells of unlike places it is, too.
func TestOtherOrders(t *testing.T) {
	r := numberer(8)
	for _, l := range lists() {
		l = inOrder(standing(l))
		want := wantOf(t, l)
		slices.Reverse(l)
		for range 3 {
			if q, e := cells.Of(l...); e != api.OK || !slices.Equal(q.Nodes, want.Nodes) {
				t.Fatalf("Of(%v): got %v, %d, want %v", l, q, e, want)
			}
			r.mix(l)
		}
	}
}

// roomy is x with spare room that is all marked, and all its room.
func roomy(x api.Big) (api.Big, []uint32) {
	all := append(slices.Clone(x.Limbs), 0xabcdef, 0xabcdef, 0xabcdef)
	return api.Big{Neg: x.Neg, Limbs: all[:len(x.Limbs)]}, all
}

// P7.1: what was handed in stays as it was, its spare room too, and whoever writes into the answer doesn't change it.
func TestCellsLeft(t *testing.T) {
	near := lists()
	more := append(near, []api.Cell{farCell(pow(far, -1), minus(pow(far, 0)), 1), cell(0, 0, 2), farCell(pow(64, 0), whole(5), 2)}, []api.Cell{farCell(pow(far, 0), whole(3), 1)}, []api.Cell{{X: api.Big{Limbs: []uint32{0}}}})
	for _, was := range more {
		var given []api.Cell
		var rooms, roomsWere [][]uint32
		for _, c := range was {
			x, xAll := roomy(c.X)
			y, yAll := roomy(c.Y)
			given = append(given, api.Cell{X: x, Y: y, State: c.State})
			rooms = append(rooms, xAll, yAll)
			roomsWere = append(roomsWere, slices.Clone(xAll), slices.Clone(yAll))
		}
		spare := cell(99, 98, 97)
		given = append(given, spare, spare, spare)
		q, _ := cells.Of(given[:len(was)]...)
		for i := range q.Nodes[:cap(q.Nodes)] {
			q.Nodes[:cap(q.Nodes)][i] = nd(-7, -7, -7, -7, -7)
		}
		if !like(given[:len(was)], was) || !like(given[len(was):], []api.Cell{spare, spare, spare}) {
			t.Fatalf("changed: %v, was %v", given, was)
		}
		for i := range rooms {
			if !slices.Equal(rooms[i], roomsWere[i]) {
				t.Fatalf("of %v limbs were changed: %v", was, rooms[i])
			}
		}
	}
}

// P7.1: so it does of quads; and no two cells of an answer share their limbs.
func TestQuadsLeft(t *testing.T) {
	spare := nd(9, 9, 9, 9, 9)
	for _, q := range append(quads(), quad(tower(nd(1, 0, 0, 0, 1), 100, 1)...)) {
		given := append(slices.Clone(q.Nodes), spare, spare, spare)
		was := slices.Clone(given)
		q.Nodes = given[:len(q.Nodes)]
		count := cells.Count(q)
		l, _ := cells.List(q, math.MaxInt)
		want, _ := cells.List(q, math.MaxInt)
		for i := range l {
			if !like(l[i:i+1], want[i:i+1]) {
				t.Fatalf("of %v the cell %v became another one with those ahead", q, want[i])
			}
			spoil(l[i].X.Limbs)
			if !likeBig(l[i].Y, want[i].Y) {
				t.Fatalf("of %v the cell %v shares its limbs", q, want[i])
			}
			spoil(l[i].Y.Limbs)
		}
		spoil(count.Limbs)
		if !slices.Equal(given, was) {
			t.Fatalf("changed: %v, was %v", given, was)
		}
		wantList(t, q, want)
	}
}

// spoil writes into all limbs, the spare room too.
func spoil(limbs []uint32) {
	limbs = limbs[:cap(limbs)]
	for i := range limbs {
		limbs[i] ^= top
	}
}

// P7.1: a call hangs on its arguments alone: asked once more, and between others, it answers the same.
func TestOnceMore(t *testing.T) {
	r := numberer(5)
	a, b := r.some(50, 20, 3), r.some(60, 9, 255)
	for range 3 {
		for _, l := range [][]api.Cell{a, b, nil} {
			wantList(t, wantOf(t, l), inOrder(standing(l)))
			wantError(t, api.ErrLimit, append(slices.Clone(l), farCell(pow(far, 0), whole(0), 1))...)
		}
	}
}
