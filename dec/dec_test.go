package dec_test

import (
	"math"
	mathbig "math/big"
	"slices"
	"strings"
	"testing"

	"glider/api"
	"glider/big"
	"glider/dec"
)

const top = math.MaxUint32

// of is the one big number that may be and that n is, told apart from the packages under test.
func of(n *mathbig.Int) api.Big {
	x := api.Big{Neg: n.Sign() < 0}
	for n = new(mathbig.Int).Abs(n); n.Sign() > 0; n.Rsh(n, 32) {
		x.Limbs = append(x.Limbs, uint32(n.Uint64()))
	}
	return x
}

// power is base to the power of n, and more.
func power(base, n, more int64) *mathbig.Int {
	p := new(mathbig.Int).Exp(mathbig.NewInt(base), mathbig.NewInt(n), nil)
	return p.Add(p, mathbig.NewInt(more))
}

// sizes are numbers from 0 on that have at most MaxDigits digits: small ones, those beside powers of 2 and of 10 (where limbs and digits begin and end), ones with noughts within them and behind them, and some that are like no other.
func sizes() []*mathbig.Int {
	var l []*mathbig.Int
	for n := range int64(200) {
		l = append(l, mathbig.NewInt(n))
	}
	for n := range int64(api.MaxDigits) {
		l = append(l, power(10, n, -1), power(10, n, 0), power(10, n, 1))
		l = append(l, new(mathbig.Int).Mul(power(10, n/2, 0), power(10, n-n/2, 7)))
	}
	for n := range int64(1328) {
		l = append(l, power(2, n, -1), power(2, n, 0), power(2, n, 1))
	}
	odd := mathbig.NewInt(1)
	for range 80 {
		odd = new(mathbig.Int).Mul(odd, mathbig.NewInt(48271))
		odd.Add(odd, mathbig.NewInt(12345))
		l = append(l, odd)
	}
	return append(l, power(10, api.MaxDigits, -1))
}

// numbers are those sizes, above and below 0.
func numbers() []*mathbig.Int {
	var l []*mathbig.Int
	for _, n := range sizes() {
		l = append(l, n)
		if n.Sign() > 0 {
			l = append(l, new(mathbig.Int).Neg(n))
		}
	}
	return l
}

// long are numbers that have more than MaxDigits digits.
func long() []*mathbig.Int {
	var l []*mathbig.Int
	for _, n := range []*mathbig.Int{
		power(10, api.MaxDigits, 0), power(10, api.MaxDigits, 1), power(10, api.MaxDigits+1, -1), power(10, 1000, 0),
		power(2, 1329, 0), power(2, api.MaxShift, 0), power(2, api.MaxShift, -1), power(7, 5000, 0),
	} {
		l = append(l, n, new(mathbig.Int).Neg(n))
	}
	return l
}

// wantNumber asks for n and OK of s.
func wantNumber(t *testing.T, s string, n *mathbig.Int) {
	t.Helper()
	got, e := dec.Parse(s)
	if want := of(n); e != api.OK || got.Neg != want.Neg || !slices.Equal(got.Limbs, want.Limbs) {
		t.Errorf("Parse(%q): got %v, %d, want %v", s, got, e, want)
	}
}

// wantError asks for an error of s, and for 0 beside it.
func wantError(t *testing.T, s string, want api.Errno) {
	t.Helper()
	got, e := dec.Parse(s)
	if e != want || got.Neg || len(got.Limbs) > 0 {
		t.Errorf("Parse of %d bytes, %.40q: got %v, %d, want %d", len(s), s, got, e, want)
	}
}

// P3.1: Text, of numbers of any length.
func TestText(t *testing.T) {
	for _, n := range append(numbers(), long()...) {
		if got := dec.Text(of(n)); got != n.String() {
			t.Errorf("Text of %v: got %q", n, got)
		}
	}
	for _, x := range []struct {
		x    api.Big
		want string
	}{
		{api.Big{}, "0"},
		{api.Big{Limbs: []uint32{}}, "0"},
		{api.Big{Limbs: []uint32{7}}, "7"},
		{api.Big{Neg: true, Limbs: []uint32{7}}, "-7"},
		{api.Big{Limbs: []uint32{10}}, "10"},
		{api.Big{Limbs: []uint32{1_000_000_000}}, "1000000000"},
		{api.Big{Neg: true, Limbs: []uint32{top}}, "-4294967295"},
		{api.Big{Limbs: []uint32{0, 1}}, "4294967296"},
		{api.Big{Neg: true, Limbs: []uint32{0, 1 << 31}}, "-9223372036854775808"},
		{api.Big{Limbs: []uint32{top, top, top}}, "79228162514264337593543950335"},
	} {
		if got := dec.Text(x.x); got != x.want {
			t.Errorf("Text(%v): got %q, want %q", x.x, got, x.want)
		}
	}
}

// P3.1: Text leaves what was handed in as it was, its spare room too.
func TestTextLeavesItsNumber(t *testing.T) {
	for _, n := range append(numbers(), long()...) {
		x := of(n)
		whole := append(slices.Clone(x.Limbs), 0xabcdef, 0xabcdef, 0xabcdef)
		was := slices.Clone(whole)
		dec.Text(api.Big{Neg: x.Neg, Limbs: whole[:len(x.Limbs)]})
		if !slices.Equal(whole, was) {
			t.Fatalf("Text of %v changed what was handed in", n)
		}
	}
}

// P3.1: Parse, of texts of numbers.
func TestParse(t *testing.T) {
	for _, n := range numbers() {
		wantNumber(t, n.String(), n)
	}
	wantNumber(t, "0", mathbig.NewInt(0))
	wantNumber(t, "-1", mathbig.NewInt(-1))
	wantNumber(t, "100", mathbig.NewInt(100))
	wantNumber(t, "4294967296", mathbig.NewInt(1<<32))
	wantNumber(t, "-9223372036854775808", mathbig.NewInt(math.MinInt64))
}

// P3.1: Parse answers ErrSyntax of what is no text of a number.
func TestParseWrong(t *testing.T) {
	for _, s := range []string{
		"", "-", "--", "-0", "--1", "-1-", "1-", "1-1", "+", "+0", "+1", "-+1", "+-1",
		"00", "01", "007", "-00", "-01", "-007", "000000000000", "0x1", "1e3", "1_000", "1,000", "1.0", ".5",
		" ", " 1", "1 ", "- 1", "1 2", "\t1", "1\n", "\n", "1\r\n", "\x00", "1\x00", "\x001",
		"a", "1a", "a1", "12345678901234567890a", "-12345678901234567890 ",
		"\xff", "1\xff", "\xff1", "-\xff", "1\xc3", "\xb11",
		"\u0663", "1\u0663", "\uff11", "\u00b2", "1\u00b2", "\u2212" + "1", "\ufeff1", "1\u2028",
		// Runes whose lowest byte, or lowest two, are a digit's.
		"\u0131", "1\u0231", "\U00010031", "\U00010030",
	} {
		wantError(t, s, api.ErrSyntax)
	}
}

// P3.1: each byte at each place of a short text.
func TestParseBytes(t *testing.T) {
	for b := range 256 {
		c := string([]byte{byte(b)})
		digit := b >= '0' && b <= '9'
		for _, x := range []struct {
			s  string
			ok bool
		}{
			{c, digit},
			{"-" + c, digit && b != '0'},
			{c + "0", digit && b != '0'},
			{c + "7", digit && b != '0' || b == '-'},
			{"7" + c, digit},
			{"-7" + c, digit},
			{"7" + c + "3", digit},
			{"123456789" + c + "987654321", digit},
			{"123456789123456789" + c, digit},
		} {
			if !x.ok {
				wantError(t, x.s, api.ErrSyntax)
				continue
			}
			n, _ := new(mathbig.Int).SetString(x.s, 10)
			wantNumber(t, x.s, n)
		}
	}
}

// P3.1: MaxDigits digits are taken, with a - ahead of them, too; one more is ErrLimit; what is no text of a number is told ahead of that.
func TestParseLimit(t *testing.T) {
	for _, d := range []string{"1", "5", "9", "10", "123456789", "98765432100"} {
		all := strings.Repeat(d, api.MaxDigits)
		most := all[:api.MaxDigits]
		n, _ := new(mathbig.Int).SetString(most, 10)
		wantNumber(t, most, n)
		wantNumber(t, "-"+most, new(mathbig.Int).Neg(n))
		for _, more := range []string{most + "0", most + "9", most + most, strings.Repeat(all, 50)} {
			wantError(t, more, api.ErrLimit)
			wantError(t, "-"+more, api.ErrLimit)
			for _, wrong := range []string{more + "x", more + "-", more + "\xff", "0" + more, "+" + more, "--" + more, "-0" + more, more + " " + more} {
				wantError(t, wrong, api.ErrSyntax)
			}
		}
	}
	wantError(t, strings.Repeat("0", api.MaxDigits), api.ErrSyntax)
	wantError(t, strings.Repeat("0", api.MaxDigits+1), api.ErrSyntax)
	wantError(t, strings.Repeat("-", api.MaxDigits+1), api.ErrSyntax)
}

// digits is Digits, told byte by byte.
func digits(s string, at int) int {
	n := 0
	for at >= 0 && at < len(s) && s[at] >= '0' && s[at] <= '9' {
		at++
		n++
	}
	return n
}

// P3.1: Digits, at every place of texts of all kinds, and beside them.
func TestDigits(t *testing.T) {
	texts := []string{
		"", "0", "9", "a", "-", "007", "-12", "a12b3", "123", "12\xff", "\xff12", "1\xff2", "/0189:", "12 34", "1\n2",
		"\u06631", "1\u06632", "12\uff1134", "\U00010031" + "5", "5\u01315", "0\x001", strings.Repeat("1234567890", 100), strings.Repeat("9", 1000) + "x" + strings.Repeat("0", 1000),
	}
	for b := range 256 {
		c := string([]byte{byte(b)})
		texts = append(texts, c, "1"+c, c+"1", "12"+c+"345", c+c)
	}
	for _, s := range texts {
		for at := -3; at <= len(s)+3; at++ {
			if got := dec.Digits(s, at); got != digits(s, at) {
				t.Errorf("Digits(%.40q, %d): got %d, want %d", s, at, got, digits(s, at))
			}
		}
		for _, at := range []int{math.MinInt, math.MinInt + 1, -1 << 32, 1 << 32, math.MaxInt - 1, math.MaxInt} {
			if got := dec.Digits(s, at); got != 0 {
				t.Errorf("Digits(%.40q, %d): got %d", s, at, got)
			}
		}
	}
}

// P3.1: Digits, as told in words.
func TestDigitsPlaces(t *testing.T) {
	for _, x := range []struct {
		s        string
		at, want int
	}{
		{"a12b3", 0, 0}, {"a12b3", 1, 2}, {"a12b3", 2, 1}, {"a12b3", 3, 0}, {"a12b3", 4, 1}, {"a12b3", 5, 0}, {"a12b3", 6, 0},
		{"000", 0, 3}, {"-5", 0, 0}, {"-5", 1, 1}, {"5", -1, 0}, {"", 0, 0},
	} {
		if got := dec.Digits(x.s, x.at); got != x.want {
			t.Errorf("Digits(%q, %d): got %d, want %d", x.s, x.at, got, x.want)
		}
	}
}

// P3.2: numbers come back of their texts.
func TestNumbersComeBack(t *testing.T) {
	for _, n := range numbers() {
		x := of(n)
		got, e := dec.Parse(dec.Text(x))
		if e != api.OK || !big.Same(got, x) || !big.Right(got) {
			t.Errorf("%v as text and back: got %v, %d", n, got, e)
		}
	}
	for _, n := range long() {
		wantError(t, dec.Text(of(n)), api.ErrLimit)
	}
}

// P3.2: texts come back of their numbers.
func TestTextsComeBack(t *testing.T) {
	texts := []string{"0", "-1", "10", "-10", "1000000000", "-1000000000", "1000000001", "999999999", "100000000000000000001"}
	for length := 1; length <= api.MaxDigits; length++ {
		for _, d := range []string{"1", "9", "30", "7000000000", "123456789"} {
			s := strings.Repeat(d, length)[:length]
			texts = append(texts, s, "-"+s)
		}
	}
	for _, s := range texts {
		x, e := dec.Parse(s)
		if got := dec.Text(x); e != api.OK || got != s || !big.Right(x) {
			t.Errorf("%q as number and back: got %q, %d", s, got, e)
		}
	}
}

// P3.2: what two calls answered has nothing in common.
func TestAnswersStandAlone(t *testing.T) {
	for _, s := range []string{"1", "-4294967296", strings.Repeat("8", api.MaxDigits)} {
		first, _ := dec.Parse(s)
		for i := range first.Limbs {
			first.Limbs[i] ^= top
		}
		second, _ := dec.Parse(s)
		if got := dec.Text(second); got != s {
			t.Errorf("Parse(%q), its first answer written into: got %q", s, got)
		}
	}
}
