package life5_test

import (
	mathbig "math/big"
	"regexp"
	"strings"
	"testing"

	"glider/api"
	"glider/cells"
	"glider/flat"
	"glider/life5"
	"glider/pattern"
)

// Cells may be from -2^far to below 2^far.
const far = 1328

// title is the first line, without its end, and head with one.
const (
	title = "#Life 1.05"
	head  = title + "\n"
)

// usual is the rule of bytes that tell none.
const usual = "B3/S23"

// wide are the greatest limits.
var wide = api.Limits{Box: 1000, Nodes: 100000}

// spot is a column and a row, counted from a block's beginning on.
type spot struct{ x, y int }

// block is where a block begins, and where its cells are.
type block struct {
	x, y *mathbig.Int
	on   []spot
}

// near is a block that begins near 0, 0.
func near(x, y int, on ...spot) block { return block{whole(x), whole(y), on} }

// whole is a number of math/big.
func whole(n int) *mathbig.Int { return mathbig.NewInt(int64(n)) }

// pow is 2^n, and d.
func pow(n uint, d int) *mathbig.Int {
	return new(mathbig.Int).Add(new(mathbig.Int).Lsh(whole(1), n), whole(d))
}

// minus is -n.
func minus(n *mathbig.Int) *mathbig.Int { return new(mathbig.Int).Neg(n) }

// bigOf is the one big number that may be and that n and d is.
func bigOf(n *mathbig.Int, d int) api.Big {
	n = new(mathbig.Int).Add(n, whole(d))
	x := api.Big{Neg: n.Sign() < 0}
	for n.Abs(n); n.Sign() > 0; n.Rsh(n, 32) {
		x.Limbs = append(x.Limbs, uint32(n.Uint64()))
	}
	return x
}

// quad is that of the blocks' cells, and whether there is one.
func quad(blocks []block) (api.Quad, bool) {
	var l []api.Cell
	for _, b := range blocks {
		for _, s := range b.on {
			l = append(l, api.Cell{X: bigOf(b.x, s.x), Y: bigOf(b.y, s.y), State: 1})
		}
	}
	q, e := cells.Of(l...)
	return q, e == api.OK
}

// told is what Life5 bytes tell: a rule, and blocks; the last one's rows are how many, and its last sign is one of a row.
type told struct {
	rule   string
	blocks []block
	rows   int
}

// The words of lines.
var (
	remarkWords = regexp.MustCompile(`^#D[^\r\n]*$`)
	ruleWords   = regexp.MustCompile(`^#R ([!-~]{1,40})$`)
	placeWords  = regexp.MustCompile(`^#P (0|-?[1-9][0-9]{0,399}) (0|-?[1-9][0-9]{0,399})$`)
	longWords   = regexp.MustCompile(`^#P ((0|-?[1-9][0-9]{0,399}) )?-?[1-9][0-9]{400}$`)
	rowWords    = regexp.MustCompile(`^[.*]*$`)
)

// linesOf are the lines of bytes, without their ends; a carriage return that is no part of one is left.
func linesOf(b string) []string {
	lines := strings.SplitAfter(b, "\n")
	if lines[len(lines)-1] == "" {
		lines = lines[:len(lines)-1]
	}
	for i, line := range lines {
		line, ended := strings.CutSuffix(line, "\n")
		if ended {
			line = strings.TrimSuffix(line, "\r")
		}
		lines[i] = line
	}
	return lines
}

// tell is what bytes tell, and whether they are Life5, as the chapter's words have it, line by line.
func tell(b string) (told, bool) {
	w := told{rule: usual}
	lines := linesOf(b)
	if len(lines) == 0 || lines[0] != title {
		return told{}, false
	}
	for _, line := range lines[1:] {
		if !w.line(line) {
			return told{}, false
		}
	}
	return w, true
}

// line takes one that isn't the first, if it is one of those that may be.
func (w *told) line(line string) bool {
	switch {
	case remarkWords.MatchString(line):
	case line == "#N":
		w.rule = usual
	case ruleWords.MatchString(line):
		w.rule = ruleWords.FindStringSubmatch(line)[1]
	case placeWords.MatchString(line):
		texts := placeWords.FindStringSubmatch(line)
		x, _ := new(mathbig.Int).SetString(texts[1], 10)
		y, _ := new(mathbig.Int).SetString(texts[2], 10)
		w.blocks, w.rows = append(w.blocks, block{x: x, y: y}), 0
	case len(w.blocks) > 0 && rowWords.MatchString(line):
		last := &w.blocks[len(w.blocks)-1]
		for x, c := range line {
			if c == '*' {
				last.on = append(last.on, spot{x, w.rows})
			}
		}
		w.rows++
	default:
		return false
	}
	return true
}

// open tells whether something can stand behind bytes so that they are Life5.
func open(b string) bool {
	if strings.HasPrefix(title, b) {
		return true
	}
	for _, more := range []string{"", "\n", "N", "x", " x", " 0 0", "0 0", " 0", "1 0", "1"} {
		if _, ok := tell(b + more); ok {
			return true
		}
	}
	return false
}

// lastLine is what stands behind the last line feed.
func lastLine(b string) string { return b[strings.LastIndex(b, "\n")+1:] }

// tooFar tells whether the last one of bytes is a * of a row, in a column or row that is most or more.
func tooFar(b string, most int) bool {
	row := lastLine(b)
	if !strings.HasSuffix(row, "*") || !rowWords.MatchString(row) {
		return false
	}
	w, ok := tell(b)
	return ok && (len(row) > most || w.rows > most)
}

// fault is the place and the error that bytes have within a box so wide and high, of whatever cells and nodes, byte by byte.
func fault(b string, most int) (int, api.Errno) {
	for at := range len(b) {
		upTo := b[:at+1]
		switch {
		case longWords.MatchString(lastLine(upTo)) && open(b[:at]), tooFar(upTo, most):
			return at, api.ErrLimit
		case !open(upTo):
			return at, api.ErrSyntax
		}
	}
	if _, ok := tell(b); !ok {
		return len(b), api.ErrEnd
	}
	return 0, api.OK
}

// short is at most the beginning of a text.
func short(s string) string { return s[:min(len(s), 300)] }

// reads asks for the pattern of bytes, and that there is nothing to put behind them.
func reads(t *testing.T, b string, m api.Limits, rule string, blocks ...block) {
	t.Helper()
	q, ok := quad(blocks)
	if !ok {
		t.Fatalf("%q has cells too far off", short(b))
	}
	p, at, e := life5.Read(b, m)
	if e != api.OK || at != 0 || !pattern.Same(p, api.Pattern{Rule: rule, Quad: q}) {
		t.Errorf("Read %q, %v: got %q, %d nodes, %d, %d, want %q, %d nodes", short(b), m, p.Rule, len(p.Quad.Nodes), at, e, rule, len(q.Nodes))
	}
	if h, ok := life5.Hint(b); h != "" || !ok {
		t.Errorf("Hint %q: got %q, %v", short(b), h, ok)
	}
}

// fails asks for an error of bytes, at a place, and for no pattern beside it.
func fails(t *testing.T, b string, m api.Limits, at int, want api.Errno) {
	t.Helper()
	p, k, e := life5.Read(b, m)
	if e != want || k != at || p.Rule != "" || len(p.Quad.Nodes) != 0 {
		t.Errorf("Read %q, %v: got %q, %d nodes, %d, %d, want %d, %d", short(b), m, p.Rule, len(p.Quad.Nodes), k, e, at, want)
	}
}

// wrong asks for an error of what stands behind the first line, at a place counted from there on.
func wrong(t *testing.T, b string, at int, want api.Errno) {
	t.Helper()
	fails(t, head+b, wide, len(head)+at, want)
}

// hinted asks for a hint behind which bytes are Life5, and where nothing is lacking for an empty one.
func hinted(t *testing.T, b string) {
	t.Helper()
	h, ok := life5.Hint(b)
	if _, full := tell(b + h); !ok || !full {
		t.Errorf("Hint %q: got %q, %v", short(b), h, ok)
	}
	if _, full := tell(b); full != (h == "") {
		t.Errorf("Hint %q: got %q, it is Life5: %v", short(b), h, full)
	}
}

// unhinted asks for no hint.
func unhinted(t *testing.T, b string) {
	t.Helper()
	if h, ok := life5.Hint(b); h != "" || ok {
		t.Errorf("Hint %q: got %q, %v", short(b), h, ok)
	}
}

// answers asks both calls of any bytes, within limits.
func answers(t *testing.T, b string, m api.Limits) {
	t.Helper()
	at, e := fault(b, m.Box)
	if e != api.OK {
		fails(t, b, m, at, e)
	} else {
		w, _ := tell(b)
		reads(t, b, m, w.rule, w.blocks...)
	}
	if _, e := fault(b, api.MaxBox); e == api.OK || e == api.ErrEnd {
		hinted(t, b)
	} else {
		unhinted(t, b)
	}
}

// TestRead reads what ordinary bytes tell. P16.1.
func TestRead(t *testing.T) {
	glider := []spot{{1, 0}, {2, 1}, {0, 2}, {1, 2}, {2, 2}}
	reads(t, "#Life 1.05\n#D A glider\n#N\n#P -1 -1\n.*\n..*\n***\n", wide, usual, near(-1, -1, glider...))
	reads(t, "#Life 1.05\r\n#D A glider\r\n#R 23/3\r\n#P 7 -20\r\n.*\r\n..*\r\n***\r\n", wide, "23/3", near(7, -20, glider...))
	reads(t, title, wide, usual)
	reads(t, head, wide, usual)
	reads(t, title+"\r\n", wide, usual)
	reads(t, head+"#P 0 0", wide, usual)
	reads(t, head+"#P 0 0\n*", wide, usual, near(0, 0, spot{0, 0}))
	reads(t, head+"#P 0 0\n\n..\r\n\n", wide, usual)
	// The rule is that of the last line that tells one, wherever that stands.
	reads(t, head+"#R a\n#P 0 0\n*\n#R b\n#D\n#D#R c\n#D #N\n*\n", wide, "b", near(0, 0, spot{0, 0}, spot{0, 1}))
	reads(t, head+"#R a\n#P 0 0\n#N", wide, usual)
	reads(t, head+"#N\n#R N", wide, "N")
	reads(t, head+"#R #P", wide, "#P")
	// Any bytes may stand in a remark but those of a line's end.
	reads(t, head+"#D\n#Dx\n#D\x00\t\x7f\x80\xff #P 0 0 *\n#P 0 0\n*", wide, usual, near(0, 0, spot{0, 0}))
	// Lines that begin with a # are no rows.
	reads(t, head+"#P 1 2\n*\n#D\n.*\n#N\n#R x\n\n#D *\n*", wide, "x", near(1, 2, spot{0, 0}, spot{1, 1}, spot{0, 3}))
}

// TestBlocks counts columns and rows from each block's beginning on; blocks may lie over one another. P16.1.
func TestBlocks(t *testing.T) {
	reads(t, head+"#P 0 0\n*\n.*\n#P 0 0\n.*\n#P -1 5\n*.*\n#P 3 3\n#P 0 1\n.*\n", wide, usual,
		near(0, 0, spot{0, 0}, spot{1, 1}, spot{1, 0}), near(-1, 5, spot{0, 0}, spot{2, 0}))
	reads(t, head+"#P 0 0\n...\n\n#P 10 10\n*\n", wide, usual, near(10, 10, spot{0, 0}))
	reads(t, head+"#P -3 -2\n*..**\n\n*\n\n...*\n", wide, usual, near(-3, -2, spot{0, 0}, spot{3, 0}, spot{4, 0}, spot{0, 2}, spot{3, 4}))
	m := api.Limits{Box: 2, Nodes: 10000}
	reads(t, head+"#P 0 0\n**\n.*\n#P 500 -900\n**\n.*\n", m, usual, near(0, 0, spot{0, 0}, spot{1, 0}, spot{1, 1}), near(500, -900, spot{0, 0}, spot{1, 0}, spot{1, 1}))
	fails(t, head+"#P 0 0\n**\n.*\n#P 5 5\n.\n.\n*\n", m, len(head)+24, api.ErrLimit)
}

// starts are numbers at the edges of limbs, of how many digits there are in one step, and of where cells may be.
func starts() []*mathbig.Int {
	l := []*mathbig.Int{whole(0), minus(pow(far, 0)), pow(far, -1000)}
	for _, n := range []uint{0, 9, 10, 31, 32, 33, 63, 64, 96, 1000, 1327} {
		for _, d := range []int{-1000, -999, -998, -1, 0, 1, 500} {
			l = append(l, pow(n, d), minus(pow(n, d)))
		}
	}
	for _, digits := range []int{1, 8, 9, 10, 17, 18, 19, 399} {
		n, _ := new(mathbig.Int).SetString(strings.Repeat("9", digits), 10)
		l = append(l, n, minus(n))
	}
	return l
}

// TestStarts counts on from numbers of any size. P16.1.
func TestStarts(t *testing.T) {
	l := starts()
	rows := "*" + strings.Repeat(".", 998) + "*\n*\n.*" + strings.Repeat("\n", 997) + "..*\n"
	on := []spot{{0, 0}, {999, 0}, {0, 1}, {1, 2}, {2, 999}}
	for i, x := range l {
		for _, y := range []*mathbig.Int{l[(i*7+3)%len(l)], l[(i*5+1)%len(l)]} {
			reads(t, head+"#P "+x.String()+" "+y.String()+"\n"+rows, wide, usual, block{x, y, on})
		}
	}
}

// TestFaults tells where ordinary bytes can't be Life5. P16.1.
func TestFaults(t *testing.T) {
	wrong(t, "*", 0, api.ErrSyntax)
	wrong(t, ".", 0, api.ErrSyntax)
	wrong(t, "\n", 0, api.ErrSyntax)
	wrong(t, "\r\n", 0, api.ErrSyntax)
	wrong(t, " #N\n", 0, api.ErrSyntax)
	wrong(t, "N", 0, api.ErrSyntax)
	wrong(t, "#D\n*\n", 3, api.ErrSyntax)
	wrong(t, "#N\n\n", 3, api.ErrSyntax)
	wrong(t, "#R x\n..", 5, api.ErrSyntax)
	wrong(t, "#n\n", 1, api.ErrSyntax)
	wrong(t, "#\n", 1, api.ErrSyntax)
	wrong(t, "# D\n", 1, api.ErrSyntax)
	wrong(t, "##", 1, api.ErrSyntax)
	wrong(t, "#C x\n", 1, api.ErrSyntax)
	wrong(t, "#N \n", 2, api.ErrSyntax)
	wrong(t, "#NN\n", 2, api.ErrSyntax)
	wrong(t, "#D\rx\n", 3, api.ErrSyntax)
	wrong(t, "#N\r\r\n", 3, api.ErrSyntax)
	wrong(t, "#R\n", 2, api.ErrSyntax)
	wrong(t, "#Rx\n", 2, api.ErrSyntax)
	wrong(t, "#R \n", 3, api.ErrSyntax)
	wrong(t, "#R  x\n", 3, api.ErrSyntax)
	wrong(t, "#R a b\n", 4, api.ErrSyntax)
	wrong(t, "#P\n", 2, api.ErrSyntax)
	wrong(t, "#P0 0\n", 2, api.ErrSyntax)
	wrong(t, "#P\t0 0\n", 2, api.ErrSyntax)
	wrong(t, "#P  0 0\n", 3, api.ErrSyntax)
	wrong(t, "#P 0\n", 4, api.ErrSyntax)
	wrong(t, "#P 0 \n", 5, api.ErrSyntax)
	wrong(t, "#P 0  0\n", 5, api.ErrSyntax)
	wrong(t, "#P 0,0\n", 4, api.ErrSyntax)
	wrong(t, "#P 0 0 \n", 6, api.ErrSyntax)
	wrong(t, "#P 0 0 0\n", 6, api.ErrSyntax)
	wrong(t, "#P 0 0*\n", 6, api.ErrSyntax)
	wrong(t, "#P 0 0\n*.o", 9, api.ErrSyntax)
	wrong(t, "#P 0 0\n*. \n", 9, api.ErrSyntax)
	wrong(t, "#P 0 0\n*#N\n", 8, api.ErrSyntax)
	wrong(t, "#P 0 0\n*\r*\n", 9, api.ErrSyntax)
	wrong(t, "#P 0 0\nO\n", 7, api.ErrSyntax)
	wrong(t, "#P 0 0\n"+head, 8, api.ErrSyntax)
	for _, b := range []string{"#", "#R", "#R ", "#P", "#P ", "#P 0", "#P 0 ", "#P -", "#P -5", "#P 0 -", "#D\r", "#N\r", "#R a\r", "#P 0 0\r", "#P 0 0\n\r", "#P 0 0\n.*\r", "#P 0 0\n*\n#"} {
		wrong(t, b, len(b), api.ErrEnd)
		hinted(t, head+b)
	}
}

// TestTitle takes the one first line alone. P16.1, P16.3.
func TestTitle(t *testing.T) {
	for at := range len(title) {
		fails(t, title[:at], wide, at, api.ErrEnd)
		hinted(t, title[:at])
		for c := range 256 {
			if byte(c) == title[at] {
				continue
			}
			for _, more := range []string{"", title, title[at+1:] + "\n"} {
				b := title[:at] + string([]byte{byte(c)}) + more
				fails(t, b, wide, at, api.ErrSyntax)
				unhinted(t, b)
			}
		}
	}
	for _, b := range []string{title + " ", title + "0\n", title + "x", title + "#N"} {
		fails(t, b, wide, len(title), api.ErrSyntax)
		unhinted(t, b)
	}
	fails(t, title+"\r", wide, len(title)+1, api.ErrEnd)
	fails(t, title+"\r\r", wide, len(title)+1, api.ErrSyntax)
	fails(t, "\n"+head, wide, 0, api.ErrSyntax)
	fails(t, "\xef\xbb\xbf"+head, wide, 0, api.ErrSyntax)
}

// TestRules lets rules of one to forty bytes, each from 33 to 126, and no others. P16.1.
func TestRules(t *testing.T) {
	for _, n := range []int{1, 2, 39, 40} {
		rule := strings.Repeat("~", n)
		reads(t, head+"#R "+rule, wide, rule)
		reads(t, head+"#R "+rule+"\r\n#P 0 0\n*", wide, rule, near(0, 0, spot{0, 0}))
	}
	for _, n := range []int{41, 42, 1000} {
		wrong(t, "#R "+strings.Repeat("!", n)+"\n", 43, api.ErrSyntax)
	}
	for c := range 256 {
		b := "#R a" + string([]byte{byte(c)})
		switch {
		case c == '\n':
			reads(t, head+b, wide, "a")
		case c == '\r':
			wrong(t, b, 5, api.ErrEnd)
		case c < 33 || c > 126:
			wrong(t, b, 4, api.ErrSyntax)
			unhinted(t, head+b)
		default:
			reads(t, head+b, wide, b[3:])
		}
	}
}

// TestNumbers lets the texts of numbers, of any number of digits up to 400, and no others. P16.1.
func TestNumbers(t *testing.T) {
	for _, s := range []string{"00", "01", "007", "0-1"} {
		wrong(t, "#P "+s+" 0\n", 4, api.ErrSyntax)
		wrong(t, "#P 0 "+s+"\n", 6, api.ErrSyntax)
	}
	for _, s := range []string{"-0", "-01", "--1", "- 1", "-\n", "-x", "-" + strings.Repeat("0", 500)} {
		wrong(t, "#P "+s+" 0\n", 4, api.ErrSyntax)
		wrong(t, "#P 0 "+s+"\n", 6, api.ErrSyntax)
	}
	for _, s := range []string{"+1", ".5", "x", "\xd9\xa1", ""} {
		wrong(t, "#P "+s+" 0\n", 3, api.ErrSyntax)
		wrong(t, "#P 0 "+s+"\n", 5, api.ErrSyntax)
	}
	for _, s := range []string{"1.", "1e3", "1\xd9\xa1", "1,", "1-"} {
		wrong(t, "#P "+s+" 0\n", 4, api.ErrSyntax)
		wrong(t, "#P 0 "+s+"\n", 6, api.ErrSyntax)
	}
	for _, digit := range []string{"1", "9"} {
		for _, sign := range []string{"", "-"} {
			most := sign + strings.Repeat(digit, 400)
			reads(t, head+"#P "+most+" "+most, wide, usual)
			reads(t, head+"#P "+most+" 0\r\n...\n", wide, usual)
			wrong(t, "#P "+most, 3+len(most), api.ErrEnd)
			hinted(t, head+"#P "+most)
			wrong(t, "#P "+most+"x", 3+len(most), api.ErrSyntax)
			for _, more := range []string{"0", "9", "0 0\n", "55x"} {
				wrong(t, "#P "+most+more, 3+len(most), api.ErrLimit)
				wrong(t, "#P 0 "+most+more, 5+len(most), api.ErrLimit)
				unhinted(t, head+"#P "+most+more)
				unhinted(t, head+"#P 0 "+most+more)
				answers(t, head+"#P "+most+more, wide)
			}
		}
	}
}

// TestFar lets cells from -2^1328 to below 2^1328 alone; that one is further off is told at the end. P16.1.
func TestFar(t *testing.T) {
	least, most := minus(pow(far, 0)), pow(far, -1)
	for _, x := range []*mathbig.Int{least, most, whole(0)} {
		for _, y := range []*mathbig.Int{least, most} {
			for _, place := range [][2]*mathbig.Int{{x, y}, {y, x}} {
				reads(t, head+"#P "+place[0].String()+" "+place[1].String()+"\n*\n", wide, usual, block{place[0], place[1], []spot{{0, 0}}})
			}
		}
	}
	over, under := pow(far, 0).String(), new(mathbig.Int).Sub(least, whole(1)).String()
	for _, b := range []string{
		"#P " + over + " 0\n*", "#P 0 " + over + "\n*\n", "#P " + under + " 0\n*", "#P 0 " + under + "\n*\n#N",
		"#P " + most.String() + " 0\n.*", "#P 0 " + most.String() + "\n\n*\n#P 0 0\n*\n", "#P 0 0\n*\n#P -" + strings.Repeat("9", 400) + " 0\n*",
	} {
		wrong(t, b, len(b), api.ErrLimit)
		hinted(t, head+b)
		// All that is told of bytes comes ahead of it.
		wrong(t, b+"\r", len(b)+1, api.ErrEnd)
		wrong(t, b+"x", len(b), api.ErrSyntax)
	}
	// Where no cell is, it may be as far off as numbers go; and a cell may be nearer than its block.
	reads(t, head+"#P "+over+" 0\n....\n", wide, usual)
	reads(t, head+"#P 0 "+over+"\n", wide, usual)
	before := new(mathbig.Int).Sub(least, whole(2))
	reads(t, head+"#P "+before.String()+" "+before.String()+"\n\n\n..*\n", wide, usual, block{before, before, []spot{{2, 2}}})
}

// TestEachByte asks of each byte, wherever one may come. P16.1, P16.3.
func TestEachByte(t *testing.T) {
	for _, ahead := range []string{
		"", "#", "#D", "#Da", "#N", "#R", "#R ", "#R a", "#P", "#P ", "#P -", "#P 0", "#P 1", "#P -1", "#P 1 ", "#P 1 -", "#P 1 0", "#P 1 -1",
		"\r", "#D\r", "#N\r", "#R a\r", "#P 1 1\r", "#P 1 1\n", "#P 1 1\n#", "#P 1 1\n#D", "#P 1 1\n.", "#P 1 1\n*", "#P 1 1\n*\r", "#P 1 1\n\r", "#P 1 1\n.\n", "#D\n", "#N\n", "#R a\n", "#P 1 1\n#N\n",
	} {
		for c := range 256 {
			answers(t, head+ahead+string([]byte{byte(c)}), wide)
			answers(t, head+ahead+string([]byte{byte(c)})+"*", api.Limits{Box: 1, Nodes: 9})
		}
	}
}

// TestAllSmall asks of all bytes up to some length that are of a few kinds. P16.1, P16.3.
func TestAllSmall(t *testing.T) {
	all(t, title, []string{"\n", "\r", "#", "*", "N", "P"}, 4)
	all(t, head, []string{"#", "D", "N", "R", "P", " ", "1", "\n", "*"}, 4)
	all(t, head, []string{"#D", "#N", "#R x", "#P 0 0", "#P -1 2", "\n", "\r\n", ".*"}, 4)
	all(t, head+"#P ", []string{"0", "1", "-", " ", "\n"}, 5)
	all(t, head+"#P 0 0\n", []string{".", "*", "\n", "\r", "#", "x"}, 5)
}

// all asks of what begins so, and has at most so many of the parts behind it; behind what can't go on of just one.
func all(t *testing.T, b string, parts []string, most int) {
	t.Helper()
	answers(t, b, wide)
	answers(t, b, api.Limits{Box: 2, Nodes: 100})
	if most == 0 || t.Failed() {
		return
	}
	if !open(b) {
		most = 1
	}
	for _, part := range parts {
		all(t, b+part, parts, most-1)
	}
}

// TestBox takes a * in the last column and row of a block that there may be, and none further; what has no cell may be anywhere. P16.1.
func TestBox(t *testing.T) {
	const begin = head + "#P -5 7\n"
	for _, most := range []int{1, 2, 3, 7, 8, 9, 100, 999, 1000} {
		m := api.Limits{Box: most, Nodes: 100}
		dots, rows := strings.Repeat(".", most), strings.Repeat("\n", most)
		reads(t, begin+dots[1:]+"*", m, usual, near(-5, 7, spot{most - 1, 0}))
		reads(t, begin+rows[1:]+"*", m, usual, near(-5, 7, spot{0, most - 1}))
		reads(t, begin+dots+".\n"+rows+"....\n#D *\n#R *", m, "*")
		fails(t, begin+dots+"*", m, len(begin)+most, api.ErrLimit)
		fails(t, begin+rows+"*", m, len(begin)+most, api.ErrLimit)
		fails(t, begin+"*"+dots[1:]+".*.*", m, len(begin)+most+1, api.ErrLimit)
		fails(t, begin+rows+dots+"..**", m, len(begin)+2*most+2, api.ErrLimit)
		// Lines that begin with a # are no rows, and behind a #P they are counted anew; what comes first is told.
		reads(t, begin+"#D\n"+rows[1:]+"#N\n#D*\n*", m, usual, near(-5, 7, spot{0, most - 1}))
		reads(t, begin+rows+"#P 1 1\n"+rows[1:]+"*", m, usual, near(1, 1, spot{0, most - 1}))
		fails(t, begin+dots+"*x", m, len(begin)+most, api.ErrLimit)
		fails(t, begin+dots+"x*", m, len(begin)+most, api.ErrSyntax)
		fails(t, begin+rows+"*\r", m, len(begin)+most, api.ErrLimit)
	}
	fails(t, begin+"..\n.*", api.Limits{Nodes: 9}, len(begin)+4, api.ErrLimit)
	reads(t, begin+"..\n#D*", api.Limits{Nodes: 9}, usual)
}

// TestHintBox knows no hint behind a * that is too far off within the greatest limits. P16.1.
func TestHintBox(t *testing.T) {
	const begin = head + "#P 0 0\n"
	dots, rows := strings.Repeat(".", 1000), strings.Repeat("\n", 1000)
	for _, b := range []string{dots[1:] + "*", rows[1:] + "*", dots + dots, rows + rows + ".\n#D*"} {
		if h, ok := life5.Hint(begin + b); h != "" || !ok {
			t.Errorf("Hint %q: got %q, %v", short(b), h, ok)
		}
		hinted(t, begin+b+"\r")
	}
	for _, b := range []string{dots + "*", rows + "*", rows + "*\r", dots + "*\n#R ", rows + "*x"} {
		unhinted(t, begin+b)
	}
}

// TestNodes takes just so many nodes as there may be; that they are too many is told at the end. P16.1.
func TestNodes(t *testing.T) {
	for _, c := range []struct {
		b     string
		nodes int
	}{
		{"#N", 0}, {"#P 5 5\n...", 0}, {"#P 0 0\n*", 1}, {"#P -1 -1\n**\n**", 1}, {"#P 0 0\n*..*", 4}, {"#P 0 0\n*\n#R x\n#P 3 0\n*", 4},
		{"#P 1 0\n*\n", 2}, {"#P 4294967296 0\n*", 34},
	} {
		w, _ := tell(head + c.b)
		if q, _ := quad(w.blocks); len(q.Nodes) != c.nodes {
			t.Errorf("%q has %d nodes, not %d", c.b, len(q.Nodes), c.nodes)
		}
		b := head + c.b
		reads(t, b, api.Limits{Box: 10, Nodes: c.nodes}, w.rule, w.blocks...)
		reads(t, b, api.Limits{Box: 10, Nodes: c.nodes + 1}, w.rule, w.blocks...)
		for nodes := range c.nodes {
			fails(t, b, api.Limits{Box: 10, Nodes: nodes}, len(b), api.ErrLimit)
			// All that is told of bytes comes ahead of it.
			fails(t, b+"\n#", api.Limits{Box: 10, Nodes: nodes}, len(b)+2, api.ErrEnd)
			fails(t, b+"\nx", api.Limits{Box: 10, Nodes: nodes}, len(b)+1, api.ErrSyntax)
			hinted(t, b)
		}
	}
}

// TestManyNodes tells at the end that there are more nodes than the greatest limits let; a hint isn't bound by that. P16.1.
func TestManyNodes(t *testing.T) {
	var s strings.Builder
	s.WriteString(head)
	for k := range 100 {
		// Their bits part from each other's wherever one looks, so that hardly a node is shared.
		x := new(mathbig.Int).Div(pow(far, -1), whole(2*k+3))
		s.WriteString("#P " + x.String() + " " + minus(x).String() + "\n*\n")
	}
	b := s.String()
	w, _ := tell(b)
	q, _ := quad(w.blocks)
	if len(q.Nodes) <= api.MaxNodes {
		t.Fatalf("there are %d nodes", len(q.Nodes))
	}
	fails(t, b, wide, len(b), api.ErrLimit)
	hinted(t, b)
	hinted(t, b+"#R ")
}

// TestLimits lets no other limits than those that may be, whatever the bytes. P16.1.
func TestLimits(t *testing.T) {
	least, most := -1<<63, 1<<63-1
	for _, m := range []api.Limits{{Box: -1}, {Nodes: -1}, {Box: 1001}, {Nodes: 100001}, {Box: least}, {Nodes: least}, {Box: most}, {Nodes: most}, {Box: -1, Nodes: 1000000}} {
		for _, b := range []string{"", head, "x", title + "\r", head + "#R ", head + "#P 0 0\n*..*"} {
			fails(t, b, m, 0, api.ErrArg)
		}
	}
	reads(t, head, api.Limits{}, usual)
	reads(t, head+"#P 0 0\n..", api.Limits{}, usual)
	fails(t, "x", api.Limits{}, 0, api.ErrSyntax)
}

// TestMuch reads many lines and long ones. P16.1.
func TestMuch(t *testing.T) {
	const much = 1 << 18
	reads(t, head+"#P 0 0\n*"+strings.Repeat("\n", much)+strings.Repeat(".", much)+"\n#D"+strings.Repeat("*", much), wide, usual, near(0, 0, spot{0, 0}))
	wrong(t, "#P 0 0\n*"+strings.Repeat("\r\n", much)+strings.Repeat(".", much)+"x", 8+3*much, api.ErrSyntax)
	wrong(t, "#P 0 0\n"+strings.Repeat(".", much)+"*", 7+much, api.ErrLimit)
	wrong(t, strings.Repeat("#N\n", much)+"#R ", 3*much+3, api.ErrEnd)
	wrong(t, "#P "+strings.Repeat("7", much), 403, api.ErrLimit)
	reads(t, head+strings.Repeat("#P 0 0\n*\n#R a\n", much), wide, "a", near(0, 0, spot{0, 0}))
	full := near(-500, 5)
	for i := range 1000 * 1000 {
		full.on = append(full.on, spot{i % 1000, i / 1000})
	}
	reads(t, head+"#P -500 5\n"+strings.Repeat(strings.Repeat("*", 1000)+"\n", 1000), wide, usual, full)
}

// numberer answers numbers that look like chance, the same ones each time.
type numberer uint32

// below is the next one, from 0 to below n.
func (r *numberer) below(n int) int {
	*r = *r*1664525 + 1013904223
	return int(*r>>8) % n
}

// drawings are spots of which all are from 0 to below 1000.
func drawings() [][]spot {
	l := [][]spot{nil, {{0, 0}}, {{3, 4}}, {{0, 999}, {999, 0}}, {{500, 0}, {500, 999}}, {{7, 7}, {7, 7}, {9, 8}}}
	r := numberer(16)
	for i := range 60 {
		var on []spot
		side := 1 + r.below(4+4*i)
		for range 1 + r.below(3*side) {
			on = append(on, spot{r.below(side), r.below(side)})
		}
		l = append(l, on)
	}
	return l
}

// TestBack reads what is written, just as it was. P16.2.
func TestBack(t *testing.T) {
	rules := []string{usual, "x", strings.Repeat("~", 40), "#P", "#N", "B36/S23"}
	l := starts()
	for i, on := range drawings() {
		for k := range 8 {
			at := block{l[(8*i+k)%len(l)], l[(5*i+3*k)%len(l)], on}
			q, ok := quad([]block{at})
			if !ok {
				t.Fatalf("%v is too far off", at)
			}
			p := api.Pattern{Rule: rules[(i+k)%len(rules)], Quad: q}
			b, e := flat.Life5(p, wide)
			if e != api.OK {
				t.Fatalf("%v is not written: %d", at, e)
			}
			reads(t, b, wide, p.Rule, at)
			back, _, _ := life5.Read(b, wide)
			if again, e := flat.Life5(back, wide); e != api.OK || again != b {
				t.Errorf("%q is written as %q, %d", short(b), short(again), e)
			}
		}
	}
}

// TestThere finds ahead of a wrong byte that bytes can go on, and behind it that nothing can help. P16.3.
func TestThere(t *testing.T) {
	r := numberer(5)
	parts := []string{"#D\n", "#D abc\r\n", "#N\n", "#R x\n", "#P 0 0\n", "#P -12 345\n", "#P 9 -", "#P ", ".*.\n", "*", "\n", "\r\n", "\r", "#R B3/S23", "#", "5"}
	bad := []string{"x", " ", "\r\r", "\x00", "\x80", "#R \n", "#R a\tb", "*#", "\r*", "#P 00", "#P -0", "#P 1 2 ", "#C", "#R " + strings.Repeat("B", 41)}
	told := 0
	for range 6000 {
		b := head
		for range r.below(8) {
			b += parts[r.below(len(parts))]
		}
		b += bad[r.below(len(bad))]
		_, at, e := life5.Read(b, wide)
		if e != api.ErrSyntax {
			continue
		}
		told++
		h, ok := life5.Hint(b[:at])
		if _, _, e := life5.Read(b[:at]+h, wide); !ok || e != api.OK {
			t.Errorf("Hint %q: got %q, %v, by which it is %d", b[:at], h, ok, e)
		}
		for _, more := range []string{"", "\n", "x", "*", "\r\n", "#N\n", b} {
			fails(t, b[:at+1]+more, wide, at, api.ErrSyntax)
			unhinted(t, b[:at+1]+more)
		}
	}
	if told < 3000 {
		t.Errorf("only %d were wrong", told)
	}
}
