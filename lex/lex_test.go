package lex_test

import (
	"strings"
	"testing"

	"glider/api"
	"glider/lex"
)

// word does something with a Lexer at the beginning of bytes, and tells it as words: what it answers, how many bytes are read, and what comes of it.
func word(b string, do func(*lex.Lexer) string) (answer string, read, at int, e api.Errno, hint string) {
	l := lex.Of(b)
	at, e = l.Caught(func() { answer = do(&l) })
	read = l.At()
	l = lex.Of(b)
	hint, _ = l.Hint(func() { do(&l) })
	return answer, read, at, e, hint
}

// TestWords goes past all that it can. It is what P15.1 and the readers behind it stand on.
func TestWords(t *testing.T) {
	skip := func(l *lex.Lexer) string {
		if l.Skip("ab") {
			return "yes"
		}
		return "no"
	}
	need := func(l *lex.Lexer) string { l.Need("ab"); return "" }
	span := func(l *lex.Lexer) string { return l.Span("ab") }
	rule := func(l *lex.Lexer) string { return l.Rule() }
	number := func(l *lex.Lexer) string { return l.Number() }
	remark := func(l *lex.Lexer) string { l.Remark(); return "" }
	end := func(l *lex.Lexer) string { l.LineEnd(); return "" }
	forty := strings.Repeat("r", 40)
	most := strings.Repeat("9", 400)
	for _, c := range []struct {
		b      string
		do     func(*lex.Lexer) string
		answer string
		read   int
		at     int
		e      api.Errno
		hint   string
	}{
		{"abc", skip, "yes", 2, 0, api.OK, ""},
		{"a", skip, "no", 0, 0, api.OK, ""},
		{"ac", skip, "no", 0, 0, api.OK, ""},
		{"abc", need, "", 2, 0, api.OK, ""},
		{"a", need, "", 1, 1, api.ErrEnd, "b"},
		{"", need, "", 0, 0, api.ErrEnd, "ab"},
		{"ac", need, "", 1, 1, api.ErrSyntax, ""},
		{"abbac", span, "abba", 4, 0, api.OK, ""},
		{"", span, "", 0, 0, api.OK, ""},
		{forty + "r", rule, forty, 40, 0, api.OK, ""},
		{"!~ ", rule, "!~", 2, 0, api.OK, ""},
		{"\x7f", rule, "", 0, 0, api.ErrSyntax, ""},
		{"", rule, "", 0, 0, api.ErrEnd, "x"},
		{"0", number, "0", 1, 0, api.OK, ""},
		{"05", number, "0", 1, 0, api.OK, ""},
		{"-10x", number, "-10", 3, 0, api.OK, ""},
		{most, number, most, 400, 0, api.OK, ""},
		{"-" + most + " ", number, "-" + most, 401, 0, api.OK, ""},
		{most + "9", number, "", 401, 400, api.ErrLimit, ""},
		{"-" + most + "99", number, "", 403, 401, api.ErrLimit, ""},
		{"-0", number, "", 2, 1, api.ErrSyntax, ""},
		{"-0" + most, number, "", 402, 1, api.ErrSyntax, ""},
		{"-x", number, "", 1, 1, api.ErrSyntax, ""},
		{"+1", number, "", 0, 0, api.ErrSyntax, ""},
		{"--1", number, "", 1, 1, api.ErrSyntax, ""},
		{"-", number, "-", 1, 1, api.ErrEnd, "1"},
		{"", number, "", 0, 0, api.ErrEnd, "1"},
		{"\x00 \xff\r\n", remark, "", 3, 0, api.OK, ""},
		{"a\nb", remark, "", 1, 0, api.OK, ""},
		{"ab", remark, "", 2, 0, api.OK, ""},
		{"\n\n", end, "", 1, 0, api.OK, ""},
		{"\r\n", end, "", 2, 0, api.OK, ""},
		{"", end, "", 0, 0, api.OK, ""},
		{"\r", end, "", 1, 1, api.ErrEnd, "\n"},
		{"\rb", end, "", 1, 1, api.ErrSyntax, ""},
		{"b", end, "", 0, 0, api.ErrSyntax, ""},
	} {
		answer, read, at, e, hint := word(c.b, c.do)
		if answer != c.answer || read != c.read || at != c.at || e != c.e || hint != c.hint {
			t.Errorf("%q: got %q, %d, %d, %d, %q, want %q, %d, %d, %d, %q", c.b, answer, read, at, e, hint, c.answer, c.read, c.at, c.e, c.hint)
		}
	}
}

// TestLacking puts all that is lacking behind one another, and reads nothing that isn't there.
func TestLacking(t *testing.T) {
	l := lex.Of("ab")
	h, ok := l.Hint(func() {
		l.Need("abc")
		l.Need("def")
		l.Rule()
		l.Number()
		l.LineEnd()
		l.Remark()
		if l.More() || l.Skip("c") || l.Span("c") != "" {
			t.Error("there is more")
		}
	})
	if h != "cdefx1" || !ok {
		t.Errorf("got %q, %v", h, ok)
	}
}

// TestThrown is told as it was thrown, and only if it is of a Lexer.
func TestThrown(t *testing.T) {
	l := lex.Of("abc")
	if at, e := l.Caught(func() { l.Throw(2, api.ErrLimit) }); at != 2 || e != api.ErrLimit {
		t.Errorf("got %d, %d", at, e)
	}
	if h, ok := l.Hint(func() { l.Need("abcd"); l.Throw(2, api.ErrLimit) }); h != "" || ok {
		t.Errorf("got %q, %v", h, ok)
	}
	defer func() {
		if thrown := recover(); thrown != "other" {
			t.Errorf("got %v", thrown)
		}
	}()
	l.Caught(func() { panic("other") })
}
