// Package lex is what layers 15 to 19 share: how bytes are read from the left. See shared/doc/15-plain.md, 'How bytes are read'.
package lex

import (
	"strings"

	"glider/api"
	"glider/text"
)

// UsualRule is that of bytes that tell none.
const UsualRule = "B3/S23"

// someRule and someDigit may stand where a rule, or a digit, is lacking.
const (
	someRule  = "x"
	someDigit = "1"
)

// digits are all of them; nought is a number by itself, and no other one begins with it.
const (
	digits = "0123456789"
	nought = "0"
)

// fault is what is thrown where bytes can't go on.
type fault struct {
	at    int
	errno api.Errno
}

// Lexer reads bytes from the left. Where they end ahead of what must stand there, it goes on as if that stood behind them, so that in the end it knows a hint.
type Lexer struct {
	bytes string
	at    int
	hint  string
}

// Of: at the beginning of bytes.
func Of(b string) Lexer { return Lexer{bytes: b} }

// Caught: what read throws, or that the bytes end too early; else 0 and OK.
func (l *Lexer) Caught(read func()) (at int, e api.Errno) {
	defer func() {
		thrown := recover()
		if thrown == nil {
			return
		}
		f, ok := thrown.(fault)
		if !ok {
			// Nobody here has thrown that: it isn't the bytes' fault.
			panic(thrown)
		}
		at, e = f.at, f.errno
	}()
	read()
	if l.hint != "" {
		return len(l.bytes), api.ErrEnd
	}
	return 0, api.OK
}

// Hint: what read found lacking, unless it throws.
func (l *Lexer) Hint(read func()) (string, bool) {
	if _, e := l.Caught(read); e != api.OK && e != api.ErrEnd {
		return "", false
	}
	return l.hint, true
}

// Throw: at the byte behind at others the bytes can't go on.
func (l *Lexer) Throw(at int, e api.Errno) { panic(fault{at, e}) }

// At: how many bytes are read.
func (l *Lexer) At() int { return l.at }

// More: are there others?
func (l *Lexer) More() bool { return l.at < len(l.bytes) }

// Skip: past a word, if that is next.
func (l *Lexer) Skip(word string) bool {
	if !strings.HasPrefix(l.bytes[l.at:], word) {
		return false
	}
	l.at += len(word)
	return true
}

// Need: past a word, since nothing else may be next.
func (l *Lexer) Need(word string) {
	same := text.Common(l.bytes[l.at:], word)
	l.at += same
	if same < len(word) && l.More() {
		l.Throw(l.at, api.ErrSyntax)
	}
	l.hint += word[same:]
}

// Span: past all bytes that are of these signs, as many as there are.
func (l *Lexer) Span(signs string) string {
	from := l.at
	for l.More() && strings.IndexByte(signs, l.bytes[l.at]) >= 0 {
		l.at++
	}
	return l.bytes[from:l.at]
}

// Rule: past a rule.
func (l *Lexer) Rule() string {
	from := l.at
	for l.More() && l.at-from < api.MaxRule && text.Sign(l.bytes[l.at]) {
		l.at++
	}
	if l.at == from {
		l.Need(someRule)
	}
	return l.bytes[from:l.at]
}

// Number: past the text of a number.
func (l *Lexer) Number() string {
	from := l.at
	if l.Skip(nought) {
		return nought
	}
	l.Skip("-")
	first := l.at
	switch size := len(l.Span(digits)); {
	case size == 0:
		l.Need(someDigit)
	case strings.HasPrefix(l.bytes[first:], nought):
		l.Throw(first, api.ErrSyntax)
	case size > api.MaxDigits:
		l.Throw(first+api.MaxDigits, api.ErrLimit)
	}
	return l.bytes[from:l.at]
}

// Remark: past all bytes up to the line's end.
func (l *Lexer) Remark() {
	rest := l.bytes[l.at:]
	if end := strings.IndexAny(rest, "\r\n"); end >= 0 {
		rest = rest[:end]
	}
	l.at += len(rest)
}

// LineEnd: past a line's end; the bytes' end is one, too.
func (l *Lexer) LineEnd() {
	if l.Skip("\r") || l.More() {
		l.Need("\n")
	}
}
