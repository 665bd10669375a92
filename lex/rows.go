package lex

import (
	"math/bits"
	"slices"
	"strings"

	"glider/api"
)

// off is the sign of a cell that is 0.
const off = "."

// Rows are what rows of signs told that stand one below the other.
type Rows struct {
	// Signs are those of the rows up to the last one with a cell that is 1, each up to its last such cell: others may be many and long, and hold nothing.
	Signs []string
	// count is how many rows there are.
	count int
}

// Row: past a row that is the next one of rows. Cells that are 1 have the sign on, and stand in columns and rows below most alone.
func (l *Lexer) Row(rows *Rows, on string, most int) {
	from := l.at
	row := l.Span(off + on)
	near := most
	if rows.count >= most {
		near = 0
	}
	if far := strings.Index(row[min(near, len(row)):], on); far >= 0 {
		l.Throw(from+near+far, api.ErrLimit)
	}
	if row = strings.TrimRight(row, off); row != "" {
		rows.Signs = append(rows.Signs, make([]string, rows.count-len(rows.Signs))...)
		rows.Signs = append(rows.Signs, row)
	}
	rows.count++
}

// Further: the number that is n more than x, n from 0 on, of a number that may be. Layers that read places may not lean on layer 2.
func Further(x api.Big, n uint32) api.Big {
	switch {
	case !x.Neg:
		return api.Big{Limbs: more(x.Limbs, n)}
	case len(x.Limbs) == 1 && x.Limbs[0] <= n:
		return api.Big{Limbs: more(nil, n-x.Limbs[0])}
	}
	return api.Big{Neg: true, Limbs: less(x.Limbs, n)}
}

// more is a number of limbs, and n.
func more(limbs []uint32, n uint32) []uint32 {
	limbs = slices.Clone(limbs)
	for i := range limbs {
		limbs[i], n = bits.Add32(limbs[i], n, 0)
	}
	if n > 0 {
		limbs = append(limbs, n)
	}
	return limbs
}

// less is a number of limbs without n, which is a lesser one.
func less(limbs []uint32, n uint32) []uint32 {
	limbs = slices.Clone(limbs)
	for i := range limbs {
		limbs[i], n = bits.Sub32(limbs[i], n, 0)
	}
	// Only the last one can become 0 that wasn't: it lends just 1.
	if last := len(limbs) - 1; limbs[last] == 0 {
		limbs = limbs[:last]
	}
	return limbs
}
