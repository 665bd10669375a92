package lex_test

import (
	"math"
	mathbig "math/big"
	"slices"
	"strings"
	"testing"

	"glider/api"
	"glider/lex"
)

// TestRow keeps of rows just those parts that have a cell, however many others there are.
func TestRow(t *testing.T) {
	l := lex.Of("..\n\n.*..*...\n" + strings.Repeat(".", 99) + "\n\n**\n...\n")
	var rows lex.Rows
	at, e := l.Caught(func() {
		for l.More() {
			l.Row(&rows, "*", 6)
			l.LineEnd()
		}
	})
	if want := []string{"", "", ".*..*", "", "", "**"}; !slices.Equal(rows.Signs, want) || at != 0 || e != api.OK {
		t.Errorf("got %q, %d, %d, want %q", rows.Signs, at, e, want)
	}
}

// TestRowFar throws at the first cell whose column or row is too far off.
func TestRowFar(t *testing.T) {
	for _, c := range []struct {
		b    string
		most int
		at   int
		e    api.Errno
	}{
		{"..O", 3, 0, api.OK},
		{"..OO", 3, 3, api.ErrLimit},
		{"O....O.O", 3, 5, api.ErrLimit},
		{".....", 3, 0, api.OK},
		{"\n\nO", 3, 0, api.OK},
		{"\n\n\n..", 3, 0, api.OK},
		{"\n\n\n.OO", 3, 4, api.ErrLimit},
		{"O", 0, 0, api.ErrLimit},
		{".", 0, 0, api.OK},
	} {
		l := lex.Of(c.b)
		var rows lex.Rows
		at, e := l.Caught(func() {
			for l.More() {
				l.Row(&rows, "O", c.most)
				l.LineEnd()
			}
		})
		if at != c.at || e != c.e {
			t.Errorf("%q, %d: got %d, %d, want %d, %d", c.b, c.most, at, e, c.at, c.e)
		}
	}
}

// bigOf is the one big number that may be and that n is.
func bigOf(n *mathbig.Int) api.Big {
	x := api.Big{Neg: n.Sign() < 0}
	for n = new(mathbig.Int).Abs(n); n.Sign() > 0; n.Rsh(n, 32) {
		x.Limbs = append(x.Limbs, uint32(n.Uint64()))
	}
	return x
}

// TestFurther counts on from numbers around each limb's border, over 0, too, and leaves what was handed in as it was.
func TestFurther(t *testing.T) {
	for _, bits := range []uint{0, 1, 9, 10, 31, 32, 33, 63, 64, 65, 96, 1328, 1340} {
		for d := -3; d <= 3; d++ {
			size := new(mathbig.Int).Add(new(mathbig.Int).Lsh(mathbig.NewInt(1), bits), mathbig.NewInt(int64(d)))
			for _, x := range []*mathbig.Int{size, new(mathbig.Int).Neg(size)} {
				for _, n := range []uint32{0, 1, 2, 3, 4, 511, 512, 513, 999, 1023, 1024, 1 << 31, math.MaxUint32 - 1, math.MaxUint32} {
					from := bigOf(x)
					got, want := lex.Further(from, n), bigOf(new(mathbig.Int).Add(x, mathbig.NewInt(int64(n))))
					if got.Neg != want.Neg || !slices.Equal(got.Limbs, want.Limbs) {
						t.Errorf("%v and %d: got %v, want %v", x, n, got, want)
					}
					if was := bigOf(x); from.Neg != was.Neg || !slices.Equal(from.Limbs, was.Limbs) {
						t.Errorf("%v and %d: it was changed to %v", x, n, from)
					}
				}
			}
		}
	}
}

// TestFurtherRoom leaves the spare room of limbs as it is.
func TestFurtherRoom(t *testing.T) {
	room := []uint32{math.MaxUint32, 7, 7}
	if got := lex.Further(api.Big{Limbs: room[:1]}, 1); !slices.Equal(got.Limbs, []uint32{0, 1}) || room[1] != 7 {
		t.Errorf("got %v, the room is %v", got, room)
	}
}
