package text_test

import (
	"math"
	"strings"
	"testing"

	"glider/api"
	"glider/text"
)

// signs are all bytes that may stand in a rule, told one by one.
const signs = "!\"#$%&'()*+,-./0123456789:;<=>?@ABCDEFGHIJKLMNOPQRSTUVWXYZ[\\]^_`abcdefghijklmnopqrstuvwxyz{|}~"

// isSign tells whether c is one of those.
func isSign(c byte) bool {
	return strings.IndexByte(signs, c) >= 0
}

// P4.1: Sign, of every byte.
func TestSign(t *testing.T) {
	if len(signs) != 94 || signs[0] != 33 || signs[93] != 126 {
		t.Fatalf("the test's signs are wrong: %q", signs)
	}
	for b := range 256 {
		if c := byte(b); text.Sign(c) != isSign(c) {
			t.Errorf("Sign(%d): got %v", c, text.Sign(c))
		}
	}
}

// wantRule asks whether s is a rule.
func wantRule(t *testing.T, s string, want bool) {
	t.Helper()
	if got := text.Rule(s); got != want {
		t.Errorf("Rule of %d bytes, %.60q: got %v, want %v", len(s), s, got, want)
	}
}

// P4.1: Rule, of rules as they are met, and of what is like one.
func TestRule(t *testing.T) {
	for _, s := range []string{
		"B3/S23", "b3/s23", "23/3", "B3/S23:T100,200", "B2/S345/C4", "WireWorld", "!", "~", "0", "#", "!~!", "B3,S23", "=,:*$",
		signs[:40], signs[27:67], signs[54:], "R5,C2,S33..57,B34..45,NM",
	} {
		wantRule(t, s, true)
	}
	for _, s := range []string{
		"", " ", "\n", "\x00", "\x7f", "\x80", "\xff", " B3/S23", "B3/S23 ", "B3 S23", "B3/S23\n", "\nB3/S23", "B3/S23\r", "B3/S23\r\n", "B3/S23\t", "B3/S23\x00", "\x00B3/S23", "B3/S23\x7f", "\xc3\xa4", "B3/S23\u00e4", "\ufeffB3/S23", "B3/S2\uff13", "\xb3", "B3\u2028", "\U0001f600",
		// Runes whose lowest byte is a sign's.
		"\u0141", "B\u0133", "\U00010041",
	} {
		wantRule(t, s, false)
	}
}

// P4.1: Rule, of every length: from 1 to MaxRule bytes are taken, not one more.
func TestRuleLength(t *testing.T) {
	for _, with := range []string{"!", "~", "x", "B3/S23", signs} {
		for n := range 4 * api.MaxRule {
			wantRule(t, strings.Repeat(with, n)[:n], n >= 1 && n <= 40)
		}
		for _, n := range []int{255, 256, 257, 296, 1 << 16, 1<<16 + 1, 1<<16 + 40, 1 << 20} {
			wantRule(t, strings.Repeat(with, n)[:n], false)
		}
	}
	// As many runes as there may be bytes are too many bytes.
	wantRule(t, strings.Repeat("\u00e4", 20), false)
	wantRule(t, strings.Repeat("\u00e4", 40), false)
}

// P4.1: Rule, of every byte in every place of texts of several lengths.
func TestRuleBytes(t *testing.T) {
	for _, n := range []int{1, 2, 3, 6, 39, 40, 41} {
		for at := range n {
			for b := range 256 {
				s := []byte(strings.Repeat("S", n))
				s[at] = byte(b)
				wantRule(t, string(s), isSign(byte(b)) && n <= 40)
			}
		}
	}
}

// wantPlace asks for a line and a column.
func wantPlace(t *testing.T, s string, at, line, column int) {
	t.Helper()
	if l, c := text.Place(s, at); l != line || c != column {
		t.Errorf("Place(%.60q, %d): got %d, %d, want %d, %d", s, at, l, c, line, column)
	}
}

// P4.1: Place, as told in words.
func TestPlace(t *testing.T) {
	for _, x := range []struct {
		s                string
		at, line, column int
	}{
		{"", 0, 1, 1},
		{"a", 0, 1, 1}, {"a", 1, 1, 2},
		{"a\nb", 0, 1, 1}, {"a\nb", 1, 1, 2}, {"a\nb", 2, 2, 1}, {"a\nb", 3, 2, 2},
		{"\n", 0, 1, 1}, {"\n", 1, 2, 1},
		{"\n\n\n", 1, 2, 1}, {"\n\n\n", 2, 3, 1}, {"\n\n\n", 3, 4, 1},
		{"ab\n\ncd\n", 3, 2, 1}, {"ab\n\ncd\n", 4, 3, 1}, {"ab\n\ncd\n", 6, 3, 3}, {"ab\n\ncd\n", 7, 4, 1},
		// A carriage return, and what else ends a line elsewhere, is a byte like others.
		{"a\r\nb", 1, 1, 2}, {"a\r\nb", 2, 1, 3}, {"a\r\nb", 3, 2, 1},
		{"a\rb", 2, 1, 3}, {"a\rb", 3, 1, 4}, {"a\vb\fc", 5, 1, 6}, {"a\x00b", 3, 1, 4}, {"a\tb", 2, 1, 3},
		{"a\u2028b", 5, 1, 6}, {"a\u0085b", 4, 1, 5},
		// Columns are bytes, not runes; within a rune, too.
		{"\u00e4b", 1, 1, 2}, {"\u00e4b", 2, 1, 3}, {"\n\U0001f600b", 3, 2, 3}, {"\n\U0001f600b", 5, 2, 5}, {"\xff\xfe\n\xff", 4, 2, 2},
		{"\u010ab", 2, 1, 3},
	} {
		wantPlace(t, x.s, x.at, x.line, x.column)
	}
}

// texts are ones with line feeds at many places, and bytes of every kind.
func texts() []string {
	list := []string{
		"", "a", "\n", "\r\n", "\n\n", "a\nb", "a\n", "\na", "ab\n\ncd\n", "[M2]\n1 1 0 0 1\r\n", "x = 3, y = 3, rule = B3/S23\nbo$2bo$3o!\n",
		"!Rule: B3/S23\n.O\n..O\nOOO\n", "\n\r\n\r\r\n", "\u010a\n\u0a0a", "\xff\n\xff\xff\n", "a\u2028b\u0085c\vd\fe",
		strings.Repeat("\n", 300), strings.Repeat("x", 300), strings.Repeat("x\n", 300), strings.Repeat("0123456789abcdef\n", 40), strings.Repeat("y", 1000) + "\n" + strings.Repeat("z", 1000),
	}
	for b := range 256 {
		c := string([]byte{byte(b)})
		list = append(list, c, c+c, "a"+c+"b", "\n"+c+"\n", c+"\n"+c)
	}
	// All texts of up to seven bytes of which each is a line feed, or isn't.
	for n := range 8 {
		for bits := range 1 << n {
			s := make([]byte, n)
			for i := range s {
				s[i] = "x\n"[bits>>i&1]
			}
			list = append(list, string(s))
		}
	}
	return list
}

// P4.1: Place is 0, 0 of what is no place of the text.
func TestPlaceWrong(t *testing.T) {
	for _, s := range texts() {
		for _, at := range []int{-1, -2, -len(s) - 1, -len(s) - 2, len(s) + 1, len(s) + 2, 2*len(s) + 1, math.MinInt, math.MinInt + 1, -1 << 31, 1 << 31, -1 << 32, 1 << 32, 1<<32 + 1, math.MaxInt - 1, math.MaxInt} {
			wantPlace(t, s, at, 0, 0)
		}
	}
}

// P4.2: from the first byte's place on each place is told by the one ahead; at the end of the text, too.
func TestPlaceOneByOne(t *testing.T) {
	for _, s := range texts() {
		line, column := 1, 1
		for at := range len(s) {
			wantPlace(t, s, at, line, column)
			column++
			if s[at] == 10 {
				line, column = line+1, 1
			}
		}
		wantPlace(t, s, len(s), line, column)
	}
}

// P4.2: a place hangs on the bytes ahead of it alone.
func TestPlaceBehind(t *testing.T) {
	for _, s := range texts() {
		line, column := text.Place(s, len(s))
		for _, more := range []string{"a", "\n", "\n\n\nb", "\r\n", "\xff"} {
			wantPlace(t, s+more, len(s), line, column)
		}
	}
}

// wantCommon asks how many bytes are the same, in either order.
func wantCommon(t *testing.T, a, b string, want int) {
	t.Helper()
	if got := text.Common(a, b); got != want {
		t.Errorf("Common(%.60q, %.60q): got %d, want %d", a, b, got, want)
	}
	if got := text.Common(b, a); got != want {
		t.Errorf("Common(%.60q, %.60q): got %d, want %d", b, a, got, want)
	}
}

// P4.1: Common, as told in words.
func TestCommon(t *testing.T) {
	for _, x := range []struct {
		a, b string
		want int
	}{
		{"", "", 0}, {"", "a", 0}, {"a", "a", 1}, {"a", "b", 0}, {"a", "A", 0}, {"abc", "abc", 3}, {"abc", "abcd", 3}, {"abc", "abd", 2},
		{"abc", "xbc", 0}, {"abc", "axc", 1}, {"bc", "abc", 0}, {"aaa", "aa", 2}, {"abab", "baba", 0},
		{"#Life 1.05", "#Life 1.06", 9}, {"#Life 1.05", "#Life", 5}, {"[M2]", "[M2]\n", 4},
		{"a\nb", "a\nc", 2}, {"a\n", "a\r\n", 1}, {"\x00", "", 0}, {"\x00a", "\x00b", 1}, {"a\x00", "a", 1}, {"a\x00b", "a\x00b", 3},
		// Bytes are told, not runes: these are alike in their first byte, or first two.
		{"\u00e4", "\u00e5", 1}, {"\u2028", "\u2029", 2}, {"a\u00e4", "a\xc3", 2}, {"\xff", "\xfe", 0}, {"\xff", "\ufffd", 0}, {"\xff\xfe", "\xff\xfd", 1},
	} {
		wantCommon(t, x.a, x.b, x.want)
	}
}

// P4.1: Common, of texts that part at every place, by every byte, or by their ends.
func TestCommonPlaces(t *testing.T) {
	for _, s := range texts() {
		wantCommon(t, s, s, len(s))
		wantCommon(t, s, s+"a", len(s))
		wantCommon(t, s, s+s, len(s))
		for at := range len(s) {
			wantCommon(t, s, s[:at], at)
			for _, flip := range []byte{1, 0x20, 0x80, 0xff} {
				other := []byte(s)
				other[at] ^= flip
				wantCommon(t, s, string(other), at)
				wantCommon(t, s, string(other[:at+1]), at)
			}
		}
	}
	for b := range 256 {
		for c := range 256 {
			want := 1
			if b == c {
				want = 3
			}
			wantCommon(t, string([]byte{'m', byte(b), 'n'}), string([]byte{'m', byte(c), 'n'}), want)
		}
	}
}

// P4.1: Common goes on to the end of long texts.
func TestCommonLong(t *testing.T) {
	s := strings.Repeat("0123456789abcdef", 1<<14)
	for _, at := range []int{0, 1, 255, 256, 65535, 65536, len(s) - 1} {
		wantCommon(t, s, s[:at]+"~"+s[at+1:], at)
		wantCommon(t, s, s[:at], at)
	}
	wantCommon(t, s, s, len(s))
}
