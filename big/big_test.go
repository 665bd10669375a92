package big_test

import (
	"math"
	mathbig "math/big"
	"slices"
	"testing"

	"glider/api"
	"glider/big"
)

const (
	top  = math.MaxUint32
	high = 1 << 31
)

// sizes are limbs in one way, at the edges: none, full limbs, single bits at a limb's borders, the least and greatest ints and what is just beyond, and some that are like no other.
func sizes() [][]uint32 {
	l := [][]uint32{
		nil, {1}, {2}, {3}, {7}, {8}, {9}, {high - 1}, {high}, {high + 1}, {top - 1}, {top},
		{0, 1}, {1, 1}, {top, 1}, {0, 2}, {5, 7}, {top - 1, high - 1}, {top, high - 1}, {0, high}, {1, high},
		{top, top}, {0, 0, 1}, {1, 0, 1}, {0, 1, 1}, {top, top, top}, {0, 0, high}, {0, 0, 0, 7}, {5, 0, 0, 7},
	}
	next := uint32(12345)
	for length := range 9 {
		a := make([]uint32, length+1)
		for i := range a {
			next = next*1664525 + 1013904223
			a[i] = next ^ next>>15
		}
		a[length] |= 1
		l = append(l, a)
	}
	return l
}

// samples are numbers of those sizes, above and below 0.
func samples() []api.Big {
	var l []api.Big
	for _, a := range sizes() {
		l = append(l, api.Big{Limbs: a})
		if len(a) > 0 {
			l = append(l, api.Big{Neg: true, Limbs: a})
		}
	}
	return l
}

// long is a number that no shift brings down to one limb.
func long(neg bool) api.Big {
	a := make([]uint32, 400)
	a[0], a[7], a[399] = 3, high, top
	return api.Big{Neg: neg, Limbs: a}
}

func ints() []int {
	l := []int{0, math.MaxInt, math.MinInt, math.MaxInt - 1, math.MinInt + 1}
	for _, n := range []int{1, 2, 3, 10, math.MaxInt32, 1 << 31, top, 1 << 32, 1<<32 + 1, 1 << 62} {
		l = append(l, n, -n)
	}
	return l
}

func shifts() []int {
	return []int{0, 1, 2, 7, 31, 32, 33, 63, 64, 65, 95, 96, 97, 128, 257, 1328, 9999, api.MaxShift}
}

func wrongShifts() []int {
	return []int{-1, -32, -33, math.MinInt, api.MaxShift + 1, api.MaxShift + 32, math.MaxInt32, math.MaxInt}
}

// number is what a big number is, told apart from the package under test.
func number(x api.Big) *mathbig.Int {
	n := new(mathbig.Int)
	for _, l := range slices.Backward(x.Limbs) {
		n.Lsh(n, 32)
		n.Or(n, mathbig.NewInt(int64(l)))
	}
	if x.Neg {
		n.Neg(n)
	}
	return n
}

// of is the one big number that may be and that n is.
func of(n *mathbig.Int) api.Big {
	x := api.Big{Neg: n.Sign() < 0}
	for n = new(mathbig.Int).Abs(n); n.Sign() > 0; n.Rsh(n, 32) {
		x.Limbs = append(x.Limbs, uint32(n.Uint64()))
	}
	return x
}

// like is Same, told apart from the package under test.
func like(x, y api.Big) bool {
	return x.Neg == y.Neg && slices.Equal(x.Limbs, y.Limbs)
}

func want(t *testing.T, got api.Big, n *mathbig.Int, call string, args ...any) {
	t.Helper()
	if !like(got, of(n)) {
		t.Errorf("%s%v: got %v, want %v", call, args, got, of(n))
	}
}

// P2.1: Right, of fields of any kind.
func TestRight(t *testing.T) {
	for _, x := range []struct {
		x    api.Big
		want bool
	}{
		{api.Big{}, true},
		{api.Big{Limbs: []uint32{}}, true},
		{api.Big{Neg: true}, false},
		{api.Big{Neg: true, Limbs: []uint32{}}, false},
		{api.Big{Limbs: []uint32{0}}, false},
		{api.Big{Neg: true, Limbs: []uint32{0}}, false},
		{api.Big{Limbs: []uint32{1}}, true},
		{api.Big{Neg: true, Limbs: []uint32{1}}, true},
		{api.Big{Limbs: []uint32{1, 0}}, false},
		{api.Big{Neg: true, Limbs: []uint32{top, 0}}, false},
		{api.Big{Limbs: []uint32{0, 1}}, true},
		{api.Big{Neg: true, Limbs: []uint32{0, 0, high}}, true},
		{api.Big{Limbs: []uint32{top, top, 0}}, false},
	} {
		if got := big.Right(x.x); got != x.want {
			t.Errorf("Right(%v): got %v", x.x, got)
		}
	}
	for _, x := range samples() {
		if !big.Right(x) {
			t.Errorf("Right(%v): got false", x)
		}
	}
}

// P2.1: Of, and Int of ints.
func TestOf(t *testing.T) {
	for _, n := range ints() {
		x := big.Of(n)
		want(t, x, mathbig.NewInt(int64(n)), "Of", n)
		if got, ok := big.Int(x); !ok || got != n {
			t.Errorf("Int(Of(%d)): got %d, %v", n, got, ok)
		}
	}
}

// P2.1: Int, of ints and of what is beyond them.
func TestInt(t *testing.T) {
	all := append(samples(), long(false), long(true))
	for _, d := range []int64{-2, -1, 0, 1, 2} {
		for _, edge := range []int64{math.MaxInt64, math.MinInt64} {
			all = append(all, of(new(mathbig.Int).Add(mathbig.NewInt(edge), mathbig.NewInt(d))))
		}
	}
	beyond := 0
	for _, x := range all {
		got, ok := big.Int(x)
		n := number(x)
		if ok != n.IsInt64() {
			t.Errorf("Int(%v): got %v", x, ok)
		}
		if ok && int64(got) != n.Int64() || !ok && got != 0 {
			t.Errorf("Int(%v): got %d", x, got)
		}
		if !ok {
			beyond++
		}
	}
	if beyond == 0 {
		t.Error("no number beyond ints was tried")
	}
}

// P2.1: Add and Sub.
func TestSums(t *testing.T) {
	for _, x := range samples() {
		for _, y := range samples() {
			want(t, big.Add(x, y), new(mathbig.Int).Add(number(x), number(y)), "Add", x, y)
			want(t, big.Sub(x, y), new(mathbig.Int).Sub(number(x), number(y)), "Sub", x, y)
		}
	}
}

// P2.1: Minus; 0 is left without a sign.
func TestMinus(t *testing.T) {
	for _, x := range samples() {
		want(t, big.Minus(x), new(mathbig.Int).Neg(number(x)), "Minus", x)
	}
	if got := big.Minus(api.Big{Limbs: []uint32{}}); !big.Right(got) {
		t.Errorf("Minus of 0: got %v", got)
	}
}

// P2.1: Cmp.
func TestCmp(t *testing.T) {
	for _, x := range samples() {
		for _, y := range samples() {
			if got, want := big.Cmp(x, y), number(x).Cmp(number(y)); got != want {
				t.Errorf("Cmp(%v, %v): got %d, want %d", x, y, got, want)
			}
		}
	}
}

// P2.1: Shl and Shr, within the bounds. (The shift to the right of math/big rounds down, too.)
func TestShifts(t *testing.T) {
	for _, x := range append(samples(), long(false), long(true)) {
		for _, n := range shifts() {
			want(t, big.Shl(x, n), new(mathbig.Int).Lsh(number(x), uint(n)), "Shl", x, n)
			want(t, big.Shr(x, n), new(mathbig.Int).Rsh(number(x), uint(n)), "Shr", x, n)
		}
	}
}

// P2.1: Shr rounds towards the lesser number.
func TestRoundedDown(t *testing.T) {
	for _, x := range []struct{ x, n, want int }{
		{-3, 1, -2}, {-2, 1, -1}, {-1, 1, -1}, {-1, 0, -1}, {-1, api.MaxShift, -1}, {-7, 0, -7},
		{3, 1, 1}, {1, 1, 0}, {0, 1, 0}, {-8, 3, -1}, {-9, 3, -2}, {-1 << 32, 32, -1}, {-1<<32 - 1, 32, -2},
		{math.MinInt, 63, -1}, {math.MinInt, 64, -1}, {math.MinInt, 62, -2}, {math.MaxInt, 63, 0},
	} {
		want(t, big.Shr(big.Of(x.x), x.n), mathbig.NewInt(int64(x.want)), "Shr", x.x, x.n)
	}
}

// P2.1: shifts and powers beyond the bounds are 0, of numbers below 0, too.
func TestWrongShifts(t *testing.T) {
	for _, n := range wrongShifts() {
		for _, x := range append(samples(), long(false), long(true)) {
			want(t, big.Shl(x, n), new(mathbig.Int), "Shl", x, n)
			want(t, big.Shr(x, n), new(mathbig.Int), "Shr", x, n)
		}
		want(t, big.Pow(n), new(mathbig.Int), "Pow", n)
	}
}

// P2.1: Pow.
func TestPow(t *testing.T) {
	for _, n := range shifts() {
		want(t, big.Pow(n), new(mathbig.Int).Lsh(mathbig.NewInt(1), uint(n)), "Pow", n)
	}
}

// P2.1: Same, of fields of any kind.
func TestSame(t *testing.T) {
	all := append(samples(),
		api.Big{Neg: true},
		api.Big{Limbs: []uint32{0}},
		api.Big{Neg: true, Limbs: []uint32{0}},
		api.Big{Limbs: []uint32{0, 0}},
		api.Big{Limbs: []uint32{1, 0}},
		api.Big{Neg: true, Limbs: []uint32{1, 0}},
	)
	for i, x := range all {
		for j, y := range all {
			if got := big.Same(x, y); got != like(x, y) {
				t.Errorf("Same(%v, %v), %d and %d: got %v", x, y, i, j, got)
			}
		}
		if !big.Same(x, api.Big{Neg: x.Neg, Limbs: slices.Clone(x.Limbs)}) {
			t.Errorf("Same of %v and its copy: got false", x)
		}
	}
	if !big.Same(api.Big{}, api.Big{Limbs: []uint32{}}) {
		t.Error("Same of no limbs and none: got false")
	}
}

// roomy is x with spare room that is all marked, and all its room.
func roomy(x api.Big) (inner api.Big, whole []uint32) {
	whole = append(slices.Clone(x.Limbs), 0xabcdef, 0xabcdef, 0xabcdef, 0xabcdef)
	return api.Big{Neg: x.Neg, Limbs: whole[:len(x.Limbs)]}, whole
}

// calls are all calls of big numbers, each of two.
func calls() map[string]func(x, y api.Big) api.Big {
	return map[string]func(x, y api.Big) api.Big{
		"Add":   big.Add,
		"Sub":   big.Sub,
		"Minus": func(x, y api.Big) api.Big { return big.Minus(x) },
		"Shl0":  func(x, y api.Big) api.Big { return big.Shl(x, 0) },
		"Shl":   func(x, y api.Big) api.Big { return big.Shl(x, 37) },
		"Shr0":  func(x, y api.Big) api.Big { return big.Shr(x, 0) },
		"Shr":   func(x, y api.Big) api.Big { return big.Shr(x, 32) },
		"told": func(x, y api.Big) api.Big {
			big.Right(x)
			big.Int(x)
			big.Cmp(x, y)
			big.Same(x, y)
			return api.Big{}
		},
	}
}

// P2.1: what was handed in is left as it was, its spare room too, even where an answer is written into.
func TestLeftAsItWas(t *testing.T) {
	for name, call := range calls() {
		for _, a := range samples() {
			for _, b := range samples() {
				x, xAll := roomy(a)
				y, yAll := roomy(b)
				xWas, yWas := slices.Clone(xAll), slices.Clone(yAll)
				got := call(x, y).Limbs
				if !slices.Equal(xAll, xWas) || !slices.Equal(yAll, yWas) {
					t.Fatalf("%s(%v, %v) changed what was handed in", name, a, b)
				}
				for i := range got[:cap(got)] {
					got[:cap(got)][i] ^= top
				}
				if !slices.Equal(xAll, xWas) || !slices.Equal(yAll, yWas) {
					t.Fatalf("%s(%v, %v) shares memory with what was handed in", name, a, b)
				}
			}
		}
	}
}

// P2.2: sums and differences come back.
func TestSumsComeBack(t *testing.T) {
	for _, x := range samples() {
		for _, y := range samples() {
			if got := big.Sub(big.Add(x, y), y); !big.Same(got, x) {
				t.Errorf("%v and %v less the second: got %v", x, y, got)
			}
			if got := big.Add(big.Sub(x, y), y); !big.Same(got, x) {
				t.Errorf("%v less %v and it again: got %v", x, y, got)
			}
			if got := big.Minus(big.Sub(y, x)); !big.Same(got, big.Sub(x, y)) {
				t.Errorf("%v less %v, the other way round: got %v", x, y, got)
			}
			if got := big.Cmp(big.Sub(x, y), api.Big{}); got != big.Cmp(x, y) {
				t.Errorf("%v less %v against 0: got %d", x, y, got)
			}
		}
		if got := big.Minus(big.Minus(x)); !big.Same(got, x) {
			t.Errorf("%v with the other sign twice: got %v", x, got)
		}
	}
}

// P2.2: what is shifted down is the greatest number whose shift up isn't above.
func TestShiftedDown(t *testing.T) {
	one := big.Of(1)
	for _, x := range append(samples(), long(false), long(true)) {
		for _, n := range shifts() {
			down := big.Shr(x, n)
			if up := big.Shl(down, n); big.Cmp(up, x) > 0 {
				t.Errorf("%v shifted down and up by %d: got %v", x, n, up)
			}
			if up := big.Shl(big.Add(down, one), n); big.Cmp(up, x) <= 0 {
				t.Errorf("%v shifted down by %d: one more isn't above, %v", x, n, up)
			}
			if got := big.Shr(big.Shl(x, n), n); !big.Same(got, x) {
				t.Errorf("%v shifted up and down by %d: got %v", x, n, got)
			}
		}
	}
}
