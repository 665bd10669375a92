package grid_test

import (
	"math"
	mathbig "math/big"
	"slices"
	"strings"
	"testing"

	"glider/api"
	"glider/box"
	"glider/canon"
	"glider/cells"
	"glider/grid"
	"glider/node"
)

// Cells may be from -2^far to below 2^far.
const far = 1328

// whole is a number of math/big.
func whole(n int) *mathbig.Int { return mathbig.NewInt(int64(n)) }

// pow is 2^n, and d.
func pow(n, d int) *mathbig.Int {
	return new(mathbig.Int).Add(new(mathbig.Int).Lsh(whole(1), uint(n)), whole(d))
}

// minus is -n.
func minus(n *mathbig.Int) *mathbig.Int { return new(mathbig.Int).Neg(n) }

// plus is n, and d.
func plus(n *mathbig.Int, d int) *mathbig.Int { return new(mathbig.Int).Add(n, whole(d)) }

// bigOf is the one big number that may be and that n is.
func bigOf(n *mathbig.Int) api.Big {
	x := api.Big{Neg: n.Sign() < 0}
	for n = new(mathbig.Int).Abs(n); n.Sign() > 0; n.Rsh(n, 32) {
		x.Limbs = append(x.Limbs, uint32(n.Uint64()))
	}
	return x
}

// like tells whether two big numbers have the same fields.
func like(x, y api.Big) bool { return x.Neg == y.Neg && slices.Equal(x.Limbs, y.Limbs) }

// sheet is a grid, told apart from the package under test.
type sheet struct {
	x, y *mathbig.Int
	rows []string
}

// at is a sheet there.
func at(x, y *mathbig.Int, rows ...string) sheet { return sheet{x, y, rows} }

// near is a sheet near 0, 0.
func near(x, y int, rows ...string) sheet { return at(whole(x), whole(y), rows...) }

// grid is the sheet as a grid.
func (s sheet) grid() api.Grid { return api.Grid{X: bigOf(s.x), Y: bigOf(s.y), Rows: s.rows} }

// signs are rows of a sheet: . for 0, the digits, and # for 255.
func signs(lines ...string) []string {
	var rows []string
	for _, line := range lines {
		row := []byte(line)
		for i, c := range row {
			switch c {
			case '.':
				row[i] = 0
			case '#':
				row[i] = 255
			default:
				row[i] = c - '0'
			}
		}
		rows = append(rows, string(row))
	}
	return rows
}

// cells are those of a sheet whose states aren't 0, the last one first.
func (s sheet) cells() []api.Cell {
	var l []api.Cell
	for k, row := range slices.Backward(s.rows) {
		for i := len(row) - 1; i >= 0; i-- {
			if row[i] != 0 {
				l = append(l, api.Cell{X: bigOf(plus(s.x, i)), Y: bigOf(plus(s.y, k)), State: row[i]})
			}
		}
	}
	return l
}

// bare tells whether a row has no other state than 0.
func bare(row string) bool { return strings.Trim(row, "\x00") == "" }

// trimmed is the sheet without rows and columns of 0 at its sides; at 0, 0 of none.
func (s sheet) trimmed() sheet {
	rows, x, y := slices.Clone(s.rows), s.x, s.y
	for len(rows) > 0 && bare(rows[0]) {
		rows, y = rows[1:], plus(y, 1)
	}
	for len(rows) > 0 && bare(rows[len(rows)-1]) {
		rows = rows[:len(rows)-1]
	}
	if len(rows) == 0 {
		return near(0, 0)
	}
	from, to := len(rows[0]), 0
	for _, row := range rows {
		from = min(from, len(row)-len(strings.TrimLeft(row, "\x00")))
		to = max(to, len(strings.TrimRight(row, "\x00")))
	}
	for k, row := range rows {
		rows[k] = row[from:to]
	}
	return at(plus(x, from), y, rows...)
}

// full are high rows, each of wide bytes of a state.
func full(wide, high int, state byte) []string {
	return slices.Repeat([]string{strings.Repeat(string([]byte{state}), wide)}, high)
}

// numberer answers numbers that look like chance, the same ones each time.
type numberer uint32

// below is the next one, from 0 to below n.
func (r *numberer) below(n int) int {
	*r = *r*1664525 + 1013904223
	return int(*r>>8) % n
}

// rows are high rows of wide bytes; of so many of them one isn't 0.
func (r *numberer) rows(wide, high, one int) []string {
	var rows []string
	for range high {
		row := make([]byte, wide)
		for i := range row {
			if r.below(one) == 0 {
				row[i] = byte(r.below(256))
			}
		}
		rows = append(rows, string(row))
	}
	return rows
}

// sheets are some of all sizes up to 12, near 0, 0 and at the edges of limbs and of where cells may be.
func sheets(seed numberer, count int) []sheet {
	r := seed
	edges := edges()
	place := func() *mathbig.Int {
		if r.below(2) == 0 {
			return whole(r.below(40) - 20)
		}
		return plus(edges[r.below(len(edges))], -r.below(12))
	}
	var all []sheet
	for range count {
		all = append(all, at(place(), place(), r.rows(r.below(13), r.below(13), 1+r.below(9))...))
	}
	return all
}

// edges are numbers at the edges of limbs and of ints, and such that all cells up to 12 further, or less far, may be.
func edges() []*mathbig.Int {
	l := []*mathbig.Int{minus(pow(far, -12)), pow(far, -12), minus(pow(1327, 0)), pow(1327, 0)}
	for _, n := range []int{8, 16, 31, 32, 33, 63, 64, 65, 95, 96, 1000} {
		l = append(l, pow(n, 0), minus(pow(n, 0)), pow(n, 5), minus(pow(n, 5)))
	}
	return l
}

// nd is a node, as it is told in words.
func nd(level, a, b, c, d int) api.Node {
	return api.Node{Level: level, Kids: [4]int{a, b, c, d}}
}

// tower is a node of each level from that leaf up to level, of which each has the one below it as those of its quarters that are told.
func tower(leaf api.Node, level int, quarters ...int) api.Quad {
	l := []api.Node{leaf}
	for len(l) < level {
		x := nd(len(l)+1, 0, 0, 0, 0)
		for _, i := range quarters {
			x.Kids[i] = len(l)
		}
		l = append(l, x)
	}
	return api.Quad{Nodes: l}
}

// quadOf is the quad of cells, which may be all.
func quadOf(t *testing.T, l ...api.Cell) api.Quad {
	t.Helper()
	q, e := cells.Of(l...)
	if e != api.OK {
		t.Fatalf("%v: %d", l, e)
	}
	return q
}

// picture is a quad as a sheet of all its cells, told apart from the package under test; the quad isn't too great for that.
func picture(q api.Quad) sheet {
	if len(q.Nodes) == 0 {
		return near(0, 0)
	}
	root := q.Nodes[len(q.Nodes)-1]
	side := 1 << root.Level
	all := make([][]byte, side)
	for y := range all {
		all[y] = make([]byte, side)
	}
	var put func(x api.Node, left, above int)
	put = func(x api.Node, left, above int) {
		half := 1 << x.Level / 2
		for i, kid := range x.Kids {
			switch {
			case kid == 0:
			case x.Level == 1:
				all[above+i/2][left+i%2] = byte(kid)
			default:
				put(q.Nodes[kid-1], left+i%2*half, above+i/2*half)
			}
		}
	}
	put(root, 0, 0)
	s := near(-side/2, -side/2)
	for _, row := range all {
		s.rows = append(s.rows, string(row))
	}
	return s
}

// quads are many quads, put together from loose nodes of levels up to 7.
func quads() []api.Quad {
	var all []api.Quad
	r := numberer(5)
	for range 1500 {
		var l []api.Node
		most := 1 + r.below(7)
		for range r.below(30) + 1 {
			x := nd(r.below(most)+1, 0, 0, 0, 0)
			for i := range x.Kids {
				switch {
				case r.below(3) == 0:
				case x.Level == 1:
					x.Kids[i] = r.below(256)
				default:
					for n, y := range l {
						if y.Level == x.Level-1 && r.below(2) == 0 {
							x.Kids[i] = n + 1
						}
					}
				}
			}
			l = append(l, x)
		}
		q, _ := canon.Of(l, len(l))
		all = append(all, q)
	}
	return all
}

// mosts are numbers that no most may be.
var mosts = []int{-1, -2, -1000, 1001, 1002, 1 << 16, 1 << 31, 1 << 32, 1<<32 + 1, -1 << 32, math.MinInt, math.MinInt + 1, math.MaxInt}

// wantNone asks for an error of Of and of Home, and for nothing beside it.
func wantNone(t *testing.T, q api.Quad, most int, want api.Errno) {
	t.Helper()
	g, e := grid.Of(q, most)
	if e != want || len(g.Rows)+len(g.X.Limbs)+len(g.Y.Limbs) > 0 || g.X.Neg || g.Y.Neg {
		t.Fatalf("Of(of %d nodes, %d): got %d, %v, want %d", len(q.Nodes), most, e, g, want)
	}
	h, e := grid.Home(q, most)
	if e != want || len(h.Nodes) > 0 {
		t.Fatalf("Home(of %d nodes, %d): got %d, %v, want %d", len(q.Nodes), most, e, h, want)
	}
}

// wantOf asks for a quad's grid, and for the quad at home.
func wantOf(t *testing.T, q api.Quad, most int, want sheet) {
	t.Helper()
	g, e := grid.Of(q, most)
	if w := want.grid(); e != api.OK || !like(g.X, w.X) || !like(g.Y, w.Y) || !slices.Equal(g.Rows, w.Rows) {
		t.Fatalf("Of(of %d nodes, %d): got %d, %v, want %v", len(q.Nodes), most, e, g, want)
	}
	h, e := grid.Home(q, most)
	if home := quadOf(t, near(0, 0, want.rows...).cells()...); e != api.OK || !slices.Equal(h.Nodes, home.Nodes) {
		t.Fatalf("Home(of %d nodes, %d): got %d, %v, want %v", len(q.Nodes), most, e, h, home)
	}
}

// wantGrid asks for a quad's grid with the least most and greater ones, and for errors of others.
func wantGrid(t *testing.T, q api.Quad, want sheet) {
	t.Helper()
	least := len(want.rows)
	if least > 0 {
		least = max(least, len(want.rows[0]))
	}
	for _, most := range []int{least, least + 1, 999, 1000} {
		if most >= least && most <= 1000 {
			wantOf(t, q, most, want)
		}
	}
	for _, most := range []int{0, least - 1, least / 2} {
		if most >= 0 && most < least {
			wantNone(t, q, most, api.ErrLimit)
		}
	}
	wantNone(t, q, -1, api.ErrArg)
	wantNone(t, q, 1001, api.ErrArg)
}

// P10.1: Of and Home, as told in words.
func TestOf(t *testing.T) {
	cell := func(x, y int, state byte) api.Cell {
		return api.Cell{X: bigOf(whole(x)), Y: bigOf(whole(y)), State: state}
	}
	wantGrid(t, quadOf(t, cell(2, 3, 1), cell(4, 3, 1)), near(2, 3, "\x01\x00\x01"))
	wantGrid(t, quadOf(t, cell(0, 0, 7)), near(0, 0, "\x07"))
	wantGrid(t, quadOf(t, cell(-1, -1, 255)), near(-1, -1, "\xff"))
	wantGrid(t, quadOf(t, cell(-1, -1, 1), cell(0, 0, 2)), near(-1, -1, signs("1.", ".2")...))
	wantGrid(t, quadOf(t, cell(-1, 0, 1), cell(0, -1, 2)), near(-1, -1, signs(".2", "1.")...))
	wantGrid(t, quadOf(t, cell(1, 0, 1), cell(2, 1, 1), cell(0, 2, 1), cell(1, 2, 1), cell(2, 2, 1)), near(0, 0, signs(".1.", "..1", "111")...))
	wantGrid(t, quadOf(t, cell(5, -7, 1), cell(5, -3, 255)), near(5, -7, signs("1", ".", ".", ".", "#")...))
	// What is of state 0 is nowhere.
	wantGrid(t, quadOf(t, cell(3, 3, 1), cell(90, -90, 0)), near(3, 3, "\x01"))
}

// P10.1: Of and Home of a quad without nodes: a grid without rows, and no nodes, with each most that may be.
func TestNone(t *testing.T) {
	for _, q := range []api.Quad{{}, {Nodes: []api.Node{}}, {Nodes: []api.Node{nd(1, 1, 1, 1, 1)}[:0]}} {
		for _, most := range []int{0, 1, 2, 500, 999, 1000} {
			wantOf(t, q, most, near(0, 0))
		}
		for _, most := range mosts {
			wantNone(t, q, most, api.ErrArg)
		}
	}
}

// P10.1: a most that may not be is told ahead of a box that is too great.
func TestMostFirst(t *testing.T) {
	for _, q := range []api.Quad{tower(nd(1, 1, 1, 1, 1), 1, 0), tower(nd(1, 1, 1, 1, 1), 1329, 0, 3), tower(nd(1, 1, 1, 1, 1), 30, 0, 1, 2, 3)} {
		for _, most := range mosts {
			wantNone(t, q, most, api.ErrArg)
		}
	}
}

// P10.1: W and H are bound each by itself, and as whole numbers, be they beyond all ints.
func TestOfLimit(t *testing.T) {
	end := func(dx, dy *mathbig.Int) []api.Cell {
		x, y := minus(pow(70, 3)), pow(40, 1)
		return []api.Cell{
			{X: bigOf(x), Y: bigOf(y), State: 1},
			{X: bigOf(new(mathbig.Int).Add(x, dx)), Y: bigOf(new(mathbig.Int).Add(y, dy)), State: 1},
		}
	}
	none := whole(0)
	for _, n := range []int{1, 2, 3, 31, 32, 33, 256, 999, 1000} {
		for _, q := range []api.Quad{quadOf(t, end(whole(n-1), none)...), quadOf(t, end(none, whole(n-1))...), quadOf(t, end(whole(n-1), whole(n-1))...)} {
			wantNone(t, q, n-1, api.ErrLimit)
			if g, e := grid.Of(q, n); e != api.OK || max(len(g.Rows), len(g.Rows[0])) != n {
				t.Fatalf("Of, of the size %d: got %d, %v", n, e, g)
			}
			if h, e := grid.Home(q, n); e != api.OK || len(h.Nodes) == 0 {
				t.Fatalf("Home, of the size %d: got %d, %v", n, e, h)
			}
		}
	}
	for _, d := range []*mathbig.Int{whole(1000), whole(1001), whole(1 << 16), pow(31, 0), pow(32, -1), pow(32, 0), pow(32, 1), pow(63, 0), pow(64, 0), pow(64, 1), pow(96, 0), pow(1327, 2)} {
		for _, q := range []api.Quad{quadOf(t, end(d, none)...), quadOf(t, end(none, d)...), quadOf(t, end(d, d)...)} {
			for _, most := range []int{0, 1, 2, 3, 999, 1000} {
				wantNone(t, q, most, api.ErrLimit)
			}
		}
	}
}

// P10.1: Of and Home of many quads.
func TestMany(t *testing.T) {
	for _, q := range quads() {
		wantGrid(t, q, picture(q).trimmed())
	}
}

// P10.1: Of, wherever the cells are.
func TestFar(t *testing.T) {
	for _, s := range sheets(2, 900) {
		wantGrid(t, quadOf(t, s.cells()...), s.trimmed())
	}
	for _, x := range edges() {
		for dx := -3; dx <= 3; dx++ {
			for dy := -3; dy <= 3; dy += 2 {
				s := at(plus(x, dx), plus(x, dy), signs("1.2", "...", "3.#")...)
				wantGrid(t, quadOf(t, s.cells()...), s)
			}
		}
	}
}

// P10.1: Of squares whose quarters are shared, full ones and those with each second row or column bare.
func TestShared(t *testing.T) {
	for level := 1; level <= 9; level++ {
		side := 1 << level
		q := tower(nd(1, 1, 2, 4, 255), level, 0, 1, 2, 3)
		wantOf(t, q, side, near(-side/2, -side/2, slices.Repeat(signs(strings.Repeat("12", side/2), strings.Repeat("4#", side/2)), side/2)...))
		wantNone(t, q, side-1, api.ErrLimit)
		// The last column and row are bare, and each second one ahead of them.
		q = tower(nd(1, 3, 0, 0, 0), level, 0, 1, 2, 3)
		row := strings.Repeat("3.", side/2)[:side-1]
		lines := slices.Repeat([]string{row, strings.Repeat(".", side-1)}, side/2)[:side-1]
		wantOf(t, q, 1000, near(-side/2, -side/2, signs(lines...)...))
	}
	for _, level := range []int{10, 11, 32, 33, 64, 65, 1329} {
		q := tower(nd(1, 1, 2, 4, 255), level, 0, 1, 2, 3)
		for _, most := range []int{0, 1, 2, 999, 1000} {
			wantNone(t, q, most, api.ErrLimit)
		}
	}
	for _, level := range []int{2, 3, 32, 33, 65, 1329} {
		first, last := minus(pow(level-1, 0)), pow(level-1, -2)
		rows := signs("12", "4#")
		wantGrid(t, tower(nd(1, 1, 2, 4, 255), level, 0), at(first, first, rows...))
		wantGrid(t, tower(nd(1, 1, 2, 4, 255), level, 1), at(last, first, rows...))
		wantGrid(t, tower(nd(1, 1, 2, 4, 255), level, 2), at(first, last, rows...))
		wantGrid(t, tower(nd(1, 1, 2, 4, 255), level, 3), at(last, last, rows...))
	}
}

// wantQuad asks for the quad of a sheet, or its error, and whether it may be.
func wantQuad(t *testing.T, g api.Grid, want api.Quad, e api.Errno) {
	t.Helper()
	q, f := grid.Quad(g)
	if f != e || !slices.Equal(q.Nodes, want.Nodes) || !node.Right(q) {
		t.Fatalf("Quad(%v): got %v, %d, want %v, %d", g, q, f, want, e)
	}
	if got := grid.Right(g); got != (e != api.ErrArg) {
		t.Fatalf("Right(%v): got %v", g, got)
	}
}

// P10.1: Right and Quad, of how many rows and bytes there may be.
func TestSizes(t *testing.T) {
	sizes := []int{0, 1, 2, 3, 255, 256, 257, 999, 1000, 1001, 1002, 1024, 4096, 1 << 16}
	for _, wide := range sizes {
		for _, high := range sizes {
			if wide*high > 1<<20 {
				continue
			}
			e := api.OK
			if high > 1000 || wide > 1000 && high > 0 {
				e = api.ErrArg
			}
			wantQuad(t, api.Grid{Rows: full(wide, high, 0)}, api.Quad{}, e)
		}
	}
}

// P10.1: Right and Quad, of rows of which one is longer, or shorter.
func TestLengths(t *testing.T) {
	for _, wide := range []int{0, 1, 2, 5, 1000} {
		for _, other := range []int{0, 1, 2, 4, 6, 999, 1001} {
			if other == wide {
				continue
			}
			for high := 2; high <= 5; high++ {
				for k := range high {
					rows := full(wide, high, 1)
					rows[k] = full(other, 1, 1)[0]
					wantQuad(t, api.Grid{Rows: rows}, api.Quad{}, api.ErrArg)
				}
			}
			rows := full(wide, 1000, 0)
			rows[999] = full(other, 1, 0)[0]
			wantQuad(t, api.Grid{Rows: rows}, api.Quad{}, api.ErrArg)
		}
	}
	wantQuad(t, api.Grid{Rows: []string{"", ""}}, api.Quad{}, api.OK)
	wantQuad(t, api.Grid{Rows: []string{"", "", "\x00"}}, api.Quad{}, api.ErrArg)
	// As many bytes as before, but in other rows.
	wantQuad(t, api.Grid{Rows: []string{"ab", "a", "abc"}}, api.Quad{}, api.ErrArg)
	// Bytes are counted, not runes.
	wantQuad(t, api.Grid{Rows: []string{"\u00e9", "e"}}, api.Quad{}, api.ErrArg)
	s := near(0, 0, "\u00e9", "ee", "\xff\xfe")
	wantQuad(t, s.grid(), quadOf(t, s.cells()...), api.OK)
}

// P10.1: Right and Quad, of numbers that may not be: told also where nothing has them, and ahead of a cell that is too far.
func TestNumbers(t *testing.T) {
	wrong := []api.Big{
		{Neg: true},
		{Limbs: []uint32{0}},
		{Neg: true, Limbs: []uint32{0}},
		{Limbs: []uint32{1, 0}},
		{Neg: true, Limbs: []uint32{7, 7, 0}},
		{Limbs: make([]uint32, 100)},
	}
	for _, x := range wrong {
		for _, rows := range [][]string{nil, {""}, {"\x00"}, {"\x01"}, full(3, 3, 9)} {
			for _, other := range []*mathbig.Int{whole(0), whole(-5), pow(far, 0), minus(pow(2000, 0))} {
				wantQuad(t, api.Grid{X: x, Y: bigOf(other), Rows: rows}, api.Quad{}, api.ErrArg)
				wantQuad(t, api.Grid{X: bigOf(other), Y: x, Rows: rows}, api.Quad{}, api.ErrArg)
			}
			wantQuad(t, api.Grid{X: x, Y: x, Rows: rows}, api.Quad{}, api.ErrArg)
		}
	}
	for _, x := range append(edges(), whole(0), pow(far, 0), pow(5000, 1), minus(pow(5000, 1))) {
		wantQuad(t, at(x, minus(x)).grid(), api.Quad{}, api.OK)
		wantQuad(t, at(x, minus(x), "\x00\x00").grid(), api.Quad{}, api.OK)
	}
}

// P10.1: Quad, of sheets of all kinds.
func TestQuad(t *testing.T) {
	for _, s := range sheets(9, 1500) {
		wantQuad(t, s.grid(), quadOf(t, s.cells()...), api.OK)
	}
	for state := range 256 {
		s := near(-1, 2, string([]byte{0, byte(state), 0, 1}))
		wantQuad(t, s.grid(), quadOf(t, s.cells()...), api.OK)
	}
	for _, wide := range []int{1, 2, 31, 1000} {
		for x := -1001; x <= 2; x += 59 {
			s := near(x, -x-1000, (new(numberer)).rows(wide, 3, 2)...)
			wantQuad(t, s.grid(), quadOf(t, s.cells()...), api.OK)
			s = near(-x-1000, x, (new(numberer)).rows(3, wide, 2)...)
			wantQuad(t, s.grid(), quadOf(t, s.cells()...), api.OK)
		}
	}
}

// P10.1: Quad, of a cell, one of those of a grid, at the ends of where cells may be, and of one further; those of state 0 may be anywhere.
func TestQuadLimit(t *testing.T) {
	first, last := minus(pow(far, 0)), pow(far, -1)
	for _, wide := range []int{1, 2, 3, 40, 1000} {
		for _, place := range []int{0, wide / 2, wide - 1} {
			row := make([]byte, wide)
			row[place] = 1
			down := strings.Split(strings.Repeat("\x00,", wide), ",")[:wide]
			down[place] = "\x01"
			for d := -2; d <= 2; d++ {
				for _, x := range []*mathbig.Int{plus(first, d-place), plus(last, d-place)} {
					n := plus(x, place)
					e := api.OK
					if n.Cmp(first) < 0 || n.Cmp(last) > 0 {
						e = api.ErrLimit
					}
					for _, s := range []sheet{at(x, whole(7), string(row)), at(whole(7), x, down...), at(x, last, string(row)), at(first, x, down...)} {
						var want api.Quad
						if e == api.OK {
							want = quadOf(t, s.cells()...)
						}
						wantQuad(t, s.grid(), want, e)
					}
				}
			}
		}
	}
	bare := full(1000, 2, 0)
	for _, x := range []*mathbig.Int{first, last, plus(first, -1), plus(last, 1), pow(1329, 0), pow(1344, 0), minus(pow(1344, 0)), pow(9999, 0), minus(pow(9999, 0))} {
		wantQuad(t, at(x, whole(0), bare...).grid(), api.Quad{}, api.OK)
		wantQuad(t, at(whole(0), x, bare...).grid(), api.Quad{}, api.OK)
		wantQuad(t, at(x, x, bare...).grid(), api.Quad{}, api.OK)
	}
}

// P10.1: Quad, of numbers that are too far by all means, at borders of limbs, and so long that one for each column would be more than there is room for.
func TestQuadBeyond(t *testing.T) {
	var all []api.Big
	for _, n := range []int{1329, 1343, 1344, 1345, 1376, 1408, 10000, 10001} {
		for _, d := range []int{-1000, -1, 0, 1} {
			all = append(all, bigOf(pow(n, d)), bigOf(minus(pow(n, d))))
		}
	}
	long := make([]uint32, 1<<23)
	long[len(long)-1] = 1
	all = append(all, api.Big{Limbs: long}, api.Big{Neg: true, Limbs: long})
	wide, high := full(1000, 1, 1), full(1, 1000, 1)
	for _, x := range all {
		for _, rows := range [][]string{wide, high, {"\x00\x01"}} {
			for _, g := range []api.Grid{{X: x, Rows: rows}, {Y: x, Rows: rows}, {X: x, Y: x, Rows: rows}} {
				if q, e := grid.Quad(g); e != api.ErrLimit || len(q.Nodes) > 0 || !grid.Right(g) {
					t.Fatalf("Quad, of %d limbs: got %d, %v", len(x.Limbs), e, q)
				}
			}
		}
		g := api.Grid{X: x, Y: x, Rows: full(1000, 1000, 0)}
		if q, e := grid.Quad(g); e != api.OK || len(q.Nodes) > 0 || !grid.Right(g) {
			t.Fatalf("Quad, bare, of %d limbs: got %d, %v", len(x.Limbs), e, q)
		}
	}
}

// P10.1: the greatest grid, full and spotted, comes back whole.
func TestGreatest(t *testing.T) {
	r := numberer(77)
	for _, s := range []sheet{near(-300, 5, full(1000, 1000, 255)...), at(minus(pow(33, 500)), pow(far, -1000), r.rows(1000, 1000, 40)...)} {
		q, e := grid.Quad(s.grid())
		if e != api.OK || !node.Right(q) {
			t.Fatal(e)
		}
		want := s.trimmed().grid()
		if g, e := grid.Of(q, 1000); e != api.OK || !grid.Same(g, want) {
			t.Fatalf("Of: got %d, or another grid", e)
		}
		h, e := grid.Home(q, 1000)
		if g, f := grid.Of(h, 1000); e != api.OK || f != api.OK || !grid.Same(g, api.Grid{Rows: want.Rows}) {
			t.Fatalf("Home: got %d, %d, or another grid", e, f)
		}
		wantNone(t, q, 999, api.ErrLimit)
	}
}

// P10.2: quads come back of their grids.
func TestBack(t *testing.T) {
	all := quads()
	for _, s := range sheets(4, 1000) {
		all = append(all, quadOf(t, s.cells()...))
	}
	for _, level := range []int{1, 2, 5, 33, 64, 700, 1329} {
		for i := range 4 {
			all = append(all, tower(nd(1, 5, 0, 255, 1), level, i))
		}
	}
	for _, q := range all {
		g, e := grid.Of(q, 1000)
		back, f := grid.Quad(g)
		if e != api.OK || f != api.OK || !slices.Equal(back.Nodes, q.Nodes) {
			t.Fatalf("%v: got %v, %d, %d", q, back, e, f)
		}
	}
}

// P10.2: at home twice is at home once, and there the box is at 0, 0, with the same rows.
func TestHome(t *testing.T) {
	all := quads()
	for _, s := range sheets(6, 1000) {
		all = append(all, quadOf(t, s.cells()...))
	}
	for _, q := range all {
		once, e := grid.Home(q, 1000)
		twice, f := grid.Home(once, 1000)
		if e != api.OK || f != api.OK || !node.Right(once) || !slices.Equal(once.Nodes, twice.Nodes) {
			t.Fatalf("%v: got %v, %d, and %v, %d", q, once, e, twice, f)
		}
		b, _ := box.Of(once)
		g, _ := grid.Of(q, 1000)
		h, _ := grid.Of(once, 1000)
		if !like(b.X, api.Big{}) || !like(b.Y, api.Big{}) || !slices.Equal(g.Rows, h.Rows) {
			t.Fatalf("%v: at home at %v, with %v, not %v", q, b, h.Rows, g.Rows)
		}
	}
}

// wantSame asks whether grids are the same, in either order.
func wantSame(t *testing.T, a, b api.Grid, want bool) {
	t.Helper()
	if grid.Same(a, b) != want || grid.Same(b, a) != want {
		t.Errorf("Same(%v, %v): got %v", a, b, !want)
	}
}

// P10.1: Same, of numbers and rows that are unlike, may they be or not.
func TestSame(t *testing.T) {
	numbers := []api.Big{
		{},
		{Neg: true},
		{Limbs: []uint32{0}},
		{Neg: true, Limbs: []uint32{0}},
		{Limbs: []uint32{1}},
		{Neg: true, Limbs: []uint32{1}},
		{Limbs: []uint32{1, 0}},
		{Limbs: []uint32{0, 1}},
		{Limbs: []uint32{1, 1, 1}},
		{Limbs: []uint32{1, 2, 1}},
	}
	rows := [][]string{
		{},
		{""},
		{"", ""},
		{"\x00"},
		{"\x01"},
		{"\x00\x00"},
		{"\x00", "\x00"},
		{"\x00", "\x01"},
		{"\x01", "\x00"},
		{"\x00", ""},
		{"", "\x00"},
		{"a", "b", "c"},
		{"a", "b"},
		{"b", "c"},
		{"a", "c", "b"},
		{"ab", "c"},
		{"a", "bc"},
		full(1001, 2, 1),
		full(2, 1001, 1),
	}
	for i, x := range numbers {
		for k, y := range numbers {
			wantSame(t, api.Grid{X: x, Rows: []string{"a"}}, api.Grid{X: y, Rows: []string{"a"}}, i == k)
			wantSame(t, api.Grid{Y: x}, api.Grid{Y: y}, i == k)
			wantSame(t, api.Grid{X: x, Y: y}, api.Grid{X: y, Y: x}, i == k)
		}
	}
	for i, a := range rows {
		for k, b := range rows {
			x := bigOf(pow(40, 3))
			wantSame(t, api.Grid{X: x, Rows: a}, api.Grid{X: bigOf(pow(40, 3)), Rows: slices.Clone(b)}, i == k)
		}
	}
	wantSame(t, api.Grid{}, api.Grid{X: api.Big{Limbs: []uint32{}}, Y: api.Big{Limbs: []uint32{}}, Rows: []string{}}, true)
	// Of the same cells there are many grids.
	wantSame(t, near(0, 0, "\x00\x01").grid(), near(1, 0, "\x01").grid(), false)
}

// spared is a list with room behind it, in which something stands.
func spared[T any](l []T, spare T) []T { return append(slices.Clone(l), spare, spare, spare) }

// P10.1: a grid that is handed in stays as it was, its spare room too, also when what was answered is written over.
func TestGridLeft(t *testing.T) {
	far := bigOf(pow(5000, 0)).Limbs
	for i, s := range sheets(12, 300) {
		was := s.grid()
		if i%5 == 0 {
			was.X.Limbs = far
		}
		x, y, rows := spared(was.X.Limbs, 9), spared(was.Y.Limbs, 9), spared(was.Rows, "spare")
		xWas, yWas, rowsWas := slices.Clone(x), slices.Clone(y), slices.Clone(rows)
		g := was
		g.X.Limbs, g.Y.Limbs, g.Rows = x[:len(x)-3], y[:len(y)-3], rows[:len(rows)-3]
		if !grid.Right(g) || !grid.Same(g, g) || !grid.Same(g, was) {
			t.Fatalf("%v: not as it was", was)
		}
		q, _ := grid.Quad(g)
		for n := range q.Nodes {
			q.Nodes[n] = api.Node{}
		}
		if !slices.Equal(x, xWas) || !slices.Equal(y, yWas) || !slices.Equal(rows, rowsWas) {
			t.Fatalf("Quad(%v) changed it", was)
		}
	}
}

// P10.1: a quad that is handed in stays as it was, its spare room too; asked once more, a call answers the same, whatever was done with what it answered.
func TestQuadLeft(t *testing.T) {
	for _, was := range quads()[:300] {
		nodes := spared(was.Nodes, nd(9, 9, 9, 9, 9))
		nodesWas := slices.Clone(nodes)
		q := api.Quad{Nodes: nodes[:len(was.Nodes)]}
		want := picture(was).trimmed()
		for range 2 {
			wantGrid(t, q, want)
			g, _ := grid.Of(q, 1000)
			for _, limbs := range [][]uint32{g.X.Limbs, g.Y.Limbs} {
				limbs = limbs[:cap(limbs)]
				for n := range limbs {
					limbs[n] ^= 0xabcdef
				}
			}
			for k := range g.Rows {
				g.Rows[k] = "other"
			}
			h, _ := grid.Home(q, 1000)
			for n := range h.Nodes {
				h.Nodes[n] = api.Node{}
			}
			if !slices.Equal(nodes, nodesWas) {
				t.Fatalf("%v: changed", was)
			}
		}
	}
}
