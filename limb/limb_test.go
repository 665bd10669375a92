package limb_test

import (
	"math"
	"math/big"
	"slices"
	"testing"

	"glider/api"
	"glider/limb"
)

const (
	top  = math.MaxUint32
	high = 1 << 31
)

// samples are numbers at the edges: none, noughts alone and behind others, full limbs, single bits at a limb's borders, and some that are like no other.
func samples() [][]uint32 {
	l := [][]uint32{
		nil, {}, {0}, {0, 0, 0}, {1}, {2}, {1, 0}, {1, 0, 0}, {top}, {top, 0}, {top - 1},
		{high}, {high - 1}, {0, 1}, {0, 0, 1}, {1, 1}, {1, 2}, {2, 1}, {2, 1, 0, 0}, {top, top},
		{top, top, top}, {0, high}, {top, high}, {0, top}, {0, 0, 0, 7}, {5, 0, 0, 7, 0}, {high, 0, 1},
	}
	next := uint32(12345)
	for length := range 9 {
		a := make([]uint32, length)
		for i := range a {
			next = next*1664525 + 1013904223
			a[i] = next ^ next>>15
		}
		l = append(l, a)
	}
	return l
}

func factors() []uint32 {
	return []uint32{0, 1, 2, 3, 7, 10, 1 << 16, high - 1, high, high + 1, 1000000000, top - 1, top}
}

func shifts() []int {
	return []int{0, 1, 2, 7, 31, 32, 33, 63, 64, 65, 95, 96, 97, 128, 255, 256, 257, 9999, api.MaxShift}
}

func wrongShifts() []int {
	return []int{-1, -32, -33, math.MinInt, api.MaxShift + 1, api.MaxShift + 32, math.MaxInt32, math.MaxInt}
}

// number is what limbs are, told apart from the package under test.
func number(a []uint32) *big.Int {
	n := new(big.Int)
	for i := len(a) - 1; i >= 0; i-- {
		n.Lsh(n, 32)
		n.Or(n, big.NewInt(int64(a[i])))
	}
	return n
}

// limbs are a number's, in one way.
func limbs(n *big.Int) []uint32 {
	var l []uint32
	for n = new(big.Int).Set(n); n.Sign() > 0; n.Rsh(n, 32) {
		l = append(l, uint32(n.Uint64()))
	}
	return l
}

func wantNumber(t *testing.T, got []uint32, want *big.Int, call string, args ...any) {
	t.Helper()
	if !slices.Equal(got, limbs(want)) {
		t.Errorf("%s%v: got %v, want %v", call, args, got, limbs(want))
	}
}

// P1.1: Right and Norm.
func TestOneWay(t *testing.T) {
	for _, x := range []struct {
		a    []uint32
		want bool
	}{
		{nil, true}, {[]uint32{}, true}, {[]uint32{0}, false}, {[]uint32{1}, true}, {[]uint32{1, 0}, false},
		{[]uint32{0, 1}, true}, {[]uint32{0, 0}, false}, {[]uint32{0, 0, high}, true}, {[]uint32{top, top, 0}, false},
	} {
		if got := limb.Right(x.a); got != x.want {
			t.Errorf("Right(%v): got %v", x.a, got)
		}
	}
	for _, a := range samples() {
		got := limb.Norm(a)
		wantNumber(t, got, number(a), "Norm", a)
		if !limb.Right(got) {
			t.Errorf("Norm(%v): %v isn't in one way", a, got)
		}
		if limb.Right(a) != slices.Equal(a, limbs(number(a))) {
			t.Errorf("Right(%v): got %v", a, limb.Right(a))
		}
	}
}

// P1.1: Cmp.
func TestCmp(t *testing.T) {
	for _, a := range samples() {
		for _, b := range samples() {
			if got, want := limb.Cmp(a, b), number(a).Cmp(number(b)); got != want {
				t.Errorf("Cmp(%v, %v): got %d, want %d", a, b, got, want)
			}
		}
	}
}

// P1.1: Add and Sub.
func TestSums(t *testing.T) {
	for _, a := range samples() {
		for _, b := range samples() {
			wantNumber(t, limb.Add(a, b), new(big.Int).Add(number(a), number(b)), "Add", a, b)
			got, ok := limb.Sub(a, b)
			want := new(big.Int).Sub(number(a), number(b))
			if ok != (want.Sign() >= 0) {
				t.Errorf("Sub(%v, %v): got %v", a, b, ok)
			}
			if want.Sign() < 0 {
				want.SetInt64(0)
			}
			wantNumber(t, got, want, "Sub", a, b)
		}
	}
}

// P1.1: Shl and Shr, within the bounds.
func TestShifts(t *testing.T) {
	for _, a := range samples() {
		for _, n := range shifts() {
			wantNumber(t, limb.Shl(a, n), new(big.Int).Lsh(number(a), uint(n)), "Shl", a, n)
			wantNumber(t, limb.Shr(a, n), new(big.Int).Rsh(number(a), uint(n)), "Shr", a, n)
		}
	}
	long := limb.Shl([]uint32{5}, api.MaxShift)
	if got := limb.Shr(limb.Shl(long, api.MaxShift), api.MaxShift); !slices.Equal(got, long) {
		t.Error("a number longer than any shift didn't come back")
	}
}

// P1.1: Shl and Shr, beyond the bounds.
func TestWrongShifts(t *testing.T) {
	for _, a := range samples() {
		for _, n := range wrongShifts() {
			if got := limb.Shl(a, n); len(got) != 0 {
				t.Errorf("Shl(%v, %d): got %v", a, n, got)
			}
			if got := limb.Shr(a, n); len(got) != 0 {
				t.Errorf("Shr(%v, %d): got %v", a, n, got)
			}
		}
	}
	// So long that a shift by one bit more than may be would leave some.
	long := make([]uint32, 400)
	long[399] = top
	if got := limb.Shr(long, api.MaxShift+1); len(got) != 0 {
		t.Errorf("Shr of a long number: got %v", got)
	}
	if got := limb.Shr(long, api.MaxShift); len(got) == 0 {
		t.Error("Shr of a long number: got none")
	}
}

// P1.1: Mul.
func TestMul(t *testing.T) {
	for _, a := range samples() {
		for _, m := range factors() {
			for _, c := range factors() {
				want := new(big.Int).Mul(number(a), big.NewInt(int64(m)))
				wantNumber(t, limb.Mul(a, m, c), want.Add(want, big.NewInt(int64(c))), "Mul", a, m, c)
			}
		}
	}
}

// P1.1: Div.
func TestDiv(t *testing.T) {
	for _, a := range samples() {
		if q, r := limb.Div(a, 0); len(q) != 0 || r != 0 {
			t.Errorf("Div(%v, 0): got %v, %d", a, q, r)
		}
		for _, m := range factors()[1:] {
			q, r := limb.Div(a, m)
			want, rest := new(big.Int).DivMod(number(a), big.NewInt(int64(m)), new(big.Int))
			wantNumber(t, q, want, "Div", a, m)
			if int64(r) != rest.Int64() {
				t.Errorf("Div(%v, %d): left %d, want %v", a, m, r, rest)
			}
		}
	}
}

// P1.1: Len and Bit.
func TestBits(t *testing.T) {
	if got := limb.Len([]uint32{1, 1}); got != 33 {
		t.Errorf("the length of 2^32 + 1: got %d", got)
	}
	for _, a := range samples() {
		n := number(a)
		if got := limb.Len(a); got != n.BitLen() {
			t.Errorf("Len(%v): got %d, want %d", a, got, n.BitLen())
		}
		for i := range 32*len(a) + 40 {
			if got := limb.Bit(a, i); got != (n.Bit(i) == 1) {
				t.Errorf("Bit(%v, %d): got %v", a, i, got)
			}
		}
		for _, i := range []int{-1, -31, -32, -33, -64, math.MinInt, math.MaxInt32, math.MaxInt} {
			if limb.Bit(a, i) {
				t.Errorf("Bit(%v, %d): got true", a, i)
			}
		}
	}
}

// roomy is a with spare room that is all marked, and that room with it.
func roomy(a []uint32) (inner, whole []uint32) {
	whole = append(slices.Clone(a), 0xabcdef, 0xabcdef, 0xabcdef, 0xabcdef)
	return whole[:len(a)], whole
}

// calls are all calls that answer limbs, each for two numbers of limbs.
func calls() map[string]func(a, b []uint32) []uint32 {
	return map[string]func(a, b []uint32) []uint32{
		"Norm": func(a, b []uint32) []uint32 { return limb.Norm(a) },
		"Add":  limb.Add,
		"Sub":  func(a, b []uint32) []uint32 { d, _ := limb.Sub(a, b); return d },
		"Shl0": func(a, b []uint32) []uint32 { return limb.Shl(a, 0) },
		"Shl":  func(a, b []uint32) []uint32 { return limb.Shl(a, 37) },
		"Shr0": func(a, b []uint32) []uint32 { return limb.Shr(a, 0) },
		"Shr":  func(a, b []uint32) []uint32 { return limb.Shr(a, 32) },
		"Mul1": func(a, b []uint32) []uint32 { return limb.Mul(a, 1, 0) },
		"Mul":  func(a, b []uint32) []uint32 { return limb.Mul(a, top, top) },
		"Div1": func(a, b []uint32) []uint32 { q, _ := limb.Div(a, 1); return q },
		"Div":  func(a, b []uint32) []uint32 { q, _ := limb.Div(a, 3); return q },
		"told": func(a, b []uint32) []uint32 {
			limb.Right(a)
			limb.Cmp(a, b)
			limb.Len(a)
			limb.Bit(a, 40)
			return nil
		},
	}
}

// P1.1: what was handed in is left as it was, its spare room too, even where an answer is written into.
func TestLeftAsItWas(t *testing.T) {
	for name, call := range calls() {
		for _, a := range samples() {
			for _, b := range samples() {
				x, xAll := roomy(a)
				y, yAll := roomy(b)
				xWas, yWas := slices.Clone(xAll), slices.Clone(yAll)
				got := call(x, y)
				if !slices.Equal(xAll, xWas) || !slices.Equal(yAll, yWas) {
					t.Fatalf("%s(%v, %v) changed what was handed in", name, a, b)
				}
				for i := range got[:cap(got)] {
					got[:cap(got)][i] ^= top
				}
				if !slices.Equal(xAll, xWas) || !slices.Equal(yAll, yWas) {
					t.Fatalf("%s(%v, %v) shares memory with what was handed in", name, a, b)
				}
			}
		}
	}
}

// P1.2: sums and differences come back.
func TestSumsComeBack(t *testing.T) {
	for _, a := range samples() {
		for _, b := range samples() {
			if got, ok := limb.Sub(limb.Add(a, b), b); !ok || limb.Cmp(got, a) != 0 {
				t.Errorf("%v and %v less the second: got %v, %v", a, b, got, ok)
			}
			d, ok := limb.Sub(a, b)
			if ok != (limb.Cmp(a, b) >= 0) {
				t.Errorf("%v less %v: got %v", a, b, ok)
			}
			if ok && limb.Cmp(limb.Add(d, b), a) != 0 {
				t.Errorf("%v less %v and it again: got %v", a, b, limb.Add(d, b))
			}
		}
	}
}

// P1.2: shifts there and back come back.
func TestShiftsComeBack(t *testing.T) {
	for _, a := range samples() {
		for _, n := range shifts() {
			up := limb.Shl(a, n)
			if got := limb.Shr(up, n); !slices.Equal(got, limb.Norm(a)) {
				t.Errorf("%v shifted by %d: got back %v", a, n, got)
			}
			if limb.Len(a) > 0 && limb.Len(up) != limb.Len(a)+n {
				t.Errorf("%v shifted by %d: length %d", a, n, limb.Len(up))
			}
		}
	}
}

// P1.2: quotients with what is left come back.
func TestQuotientsComeBack(t *testing.T) {
	for _, a := range samples() {
		for _, m := range factors()[1:] {
			q, r := limb.Div(a, m)
			if r >= m {
				t.Errorf("%v by %d: left %d", a, m, r)
			}
			if got := limb.Mul(q, m, r); !slices.Equal(got, limb.Norm(a)) {
				t.Errorf("%v by %d: got back %v", a, m, got)
			}
			back, left := limb.Div(limb.Mul(a, m, m-1), m)
			if !slices.Equal(back, limb.Norm(a)) || left != m-1 {
				t.Errorf("%v times %d: got back %v, %d", a, m, back, left)
			}
		}
	}
}
