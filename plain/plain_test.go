package plain_test

import (
	mathbig "math/big"
	"regexp"
	"slices"
	"strings"
	"testing"

	"glider/api"
	"glider/cells"
	"glider/flat"
	"glider/pattern"
	"glider/plain"
)

// Cells may be from -2^far to below 2^far.
const far = 1328

// wide are the greatest limits.
var wide = api.Limits{Box: 1000, Nodes: 100000}

// spot is a column and a row.
type spot struct{ x, y int }

// quad is that of cells of state 1, from the column x and the row y on.
func quad(t *testing.T, x, y *mathbig.Int, on []spot) api.Quad {
	t.Helper()
	var l []api.Cell
	for _, s := range on {
		l = append(l, api.Cell{X: bigOf(x, s.x), Y: bigOf(y, s.y), State: 1})
	}
	q, e := cells.Of(l...)
	if e != api.OK {
		t.Fatalf("%v: %d", on, e)
	}
	return q
}

// bigOf is the one big number that may be and that n and d is.
func bigOf(n *mathbig.Int, d int) api.Big {
	n = new(mathbig.Int).Add(n, whole(d))
	x := api.Big{Neg: n.Sign() < 0}
	for n.Abs(n); n.Sign() > 0; n.Rsh(n, 32) {
		x.Limbs = append(x.Limbs, uint32(n.Uint64()))
	}
	return x
}

// whole is a number of math/big.
func whole(n int) *mathbig.Int { return mathbig.NewInt(int64(n)) }

// home are spots, moved so that the first column and the first row of them are 0.
func home(on []spot) []spot {
	var moved []spot
	for _, s := range on {
		x := slices.MinFunc(on, func(a, b spot) int { return a.x - b.x }).x
		y := slices.MinFunc(on, func(a, b spot) int { return a.y - b.y }).y
		moved = append(moved, spot{s.x - x, s.y - y})
	}
	return moved
}

// told is what Plain bytes tell: a rule, and where cells are, not yet at home.
type told struct {
	rule string
	on   []spot
}

// ruleWords and rowWords are the words of a rule and of a row.
var (
	ruleWords = regexp.MustCompile("^[!-~]{1,40}$")
	rowWords  = regexp.MustCompile("^[.O]*$")
)

// linesOf are the lines of bytes, without their ends; a carriage return that is no part of one is left.
func linesOf(b string) []string {
	lines := strings.SplitAfter(b, "\n")
	if lines[len(lines)-1] == "" {
		lines = lines[:len(lines)-1]
	}
	for i, line := range lines {
		line, ended := strings.CutSuffix(line, "\n")
		if ended {
			line = strings.TrimSuffix(line, "\r")
		}
		lines[i] = line
	}
	return lines
}

// tell is what bytes tell, and whether they are Plain, as the chapter's words have it, line by line.
func tell(b string) (told, bool) {
	w, y := told{rule: "B3/S23"}, 0
	for _, line := range linesOf(b) {
		rule, ruled := strings.CutPrefix(line, "!Rule: ")
		switch {
		case ruled && ruleWords.MatchString(rule):
			w.rule = rule
		case ruled:
			return told{}, false
		case strings.HasPrefix(line, "!") && !strings.Contains(line, "\r"):
		case rowWords.MatchString(line):
			for x, c := range line {
				if c == 'O' {
					w.on = append(w.on, spot{x, y})
				}
			}
			y++
		default:
			return told{}, false
		}
	}
	return w, true
}

// open tells whether something can stand behind bytes so that they are Plain.
func open(b string) bool {
	for _, more := range []string{"", "\n", "x", "x\n", "O", "!"} {
		if _, ok := tell(b + more); ok {
			return true
		}
	}
	return false
}

// tooFar tells whether the last one of bytes is an O of a row, in a column or row that is most or more.
func tooFar(b string, most int) bool {
	w, ok := tell(b)
	if !ok || len(w.on) == 0 || !strings.HasSuffix(b, "O") || strings.HasPrefix(b[strings.LastIndex(b, "\n")+1:], "!") {
		return false
	}
	last := w.on[len(w.on)-1]
	return last.x >= most || last.y >= most
}

// fault is the place and the error that bytes have within a box so wide and high, of whatever nodes, byte by byte.
func fault(b string, most int) (int, api.Errno) {
	for at := range len(b) {
		if !open(b[:at+1]) {
			return at, api.ErrSyntax
		}
		if tooFar(b[:at+1], most) {
			return at, api.ErrLimit
		}
	}
	if _, ok := tell(b); !ok {
		return len(b), api.ErrEnd
	}
	return 0, api.OK
}

// short is at most the beginning of a text.
func short(s string) string { return s[:min(len(s), 300)] }

// reads asks for the pattern of bytes, and that there is nothing to put behind them.
func reads(t *testing.T, b string, m api.Limits, rule string, on ...spot) {
	t.Helper()
	want := api.Pattern{Rule: rule, Quad: quad(t, whole(0), whole(0), on)}
	p, at, e := plain.Read(b, m)
	if e != api.OK || at != 0 || !pattern.Same(p, want) {
		t.Errorf("Read %q, %v: got %q, %d nodes, %d, %d, want %q, %d nodes", short(b), m, p.Rule, len(p.Quad.Nodes), at, e, rule, len(want.Quad.Nodes))
	}
	if h, ok := plain.Hint(b); h != "" || !ok {
		t.Errorf("Hint %q: got %q, %v", short(b), h, ok)
	}
}

// fails asks for an error of bytes, at a place, and for no pattern beside it.
func fails(t *testing.T, b string, m api.Limits, at int, want api.Errno) {
	t.Helper()
	p, k, e := plain.Read(b, m)
	if e != want || k != at || p.Rule != "" || len(p.Quad.Nodes) != 0 {
		t.Errorf("Read %q, %v: got %q, %d nodes, %d, %d, want %d, %d", short(b), m, p.Rule, len(p.Quad.Nodes), k, e, at, want)
	}
}

// hinted asks for a hint behind which bytes are Plain, and where nothing is lacking for an empty one.
func hinted(t *testing.T, b string) {
	t.Helper()
	h, ok := plain.Hint(b)
	if _, full := tell(b + h); !ok || !full {
		t.Errorf("Hint %q: got %q, %v", short(b), h, ok)
	}
	if _, full := tell(b); full && h != "" {
		t.Errorf("Hint %q, which are Plain: got %q", short(b), h)
	}
}

// unhinted asks for no hint.
func unhinted(t *testing.T, b string) {
	t.Helper()
	if h, ok := plain.Hint(b); h != "" || ok {
		t.Errorf("Hint %q: got %q, %v", short(b), h, ok)
	}
}

// answers asks both calls of any bytes, within limits.
func answers(t *testing.T, b string, m api.Limits) {
	t.Helper()
	at, e := fault(b, m.Box)
	if e != api.OK {
		fails(t, b, m, at, e)
	} else {
		w, _ := tell(b)
		reads(t, b, m, w.rule, home(w.on)...)
	}
	if at, e := fault(b, 1000); e == api.ErrSyntax || e == api.ErrLimit && at < len(b) {
		unhinted(t, b)
	} else {
		hinted(t, b)
	}
}

// TestRead reads what ordinary bytes tell. P15.1.
func TestRead(t *testing.T) {
	reads(t, "!Rule: B3/S23\n.O\n..O\nOOO\n", wide, "B3/S23", spot{1, 0}, spot{2, 1}, spot{0, 2}, spot{1, 2}, spot{2, 2})
	reads(t, "!Name: Gosper\n!\nO.O", wide, "B3/S23", spot{0, 0}, spot{2, 0})
	reads(t, "", wide, "B3/S23")
	reads(t, "\n", wide, "B3/S23")
	reads(t, "\r\n\n\r\n", wide, "B3/S23")
	reads(t, ".", wide, "B3/S23")
	reads(t, "!Rule: 345/2/4", wide, "345/2/4")
	reads(t, "O", wide, "B3/S23", spot{0, 0})
	// The rule is that of the last line that tells one, wherever that stands.
	reads(t, "!Rule: a\nO\n!Rule: b\n!Rule:c\n!rule: d\n! Rule: e\nO\n!Rules: f\n!Rule", wide, "b", spot{0, 0}, spot{0, 1})
	// Rows are counted, other lines aren't; line ends of both kinds may be mixed.
	reads(t, "!\n\n!\n.OO\r\n!O\r\n\n!\nO", wide, "B3/S23", spot{1, 0}, spot{2, 0}, spot{0, 2})
	// Home is where the first column and the first row are that have a cell.
	reads(t, "....\n....\n..O..\n...O.\n....\n", wide, "B3/S23", spot{0, 0}, spot{1, 1})
	reads(t, "..O\n.O\n", wide, "B3/S23", spot{1, 0}, spot{0, 1})
	// Any bytes may stand in a remark but those of a line's end.
	reads(t, "!\x00\t\x7f\x80\xff !Rule: x .O\nO", wide, "B3/S23", spot{0, 0})
}

// TestFaults tells where ordinary bytes can't be Plain. P15.1.
func TestFaults(t *testing.T) {
	fails(t, ".O\nx", wide, 3, api.ErrSyntax)
	fails(t, "x", wide, 0, api.ErrSyntax)
	fails(t, " ", wide, 0, api.ErrSyntax)
	fails(t, "\xff", wide, 0, api.ErrSyntax)
	fails(t, ".O!", wide, 2, api.ErrSyntax)
	fails(t, ".O \n", wide, 2, api.ErrSyntax)
	fails(t, "o", wide, 0, api.ErrSyntax)
	fails(t, "#Life 1.05\n", wide, 0, api.ErrSyntax)
	fails(t, "O\r\r\n", wide, 2, api.ErrSyntax)
	fails(t, "O\rO\n", wide, 2, api.ErrSyntax)
	fails(t, "!a\rb\n", wide, 3, api.ErrSyntax)
	fails(t, "O\n\n\r", wide, 4, api.ErrEnd)
	fails(t, "!a\r", wide, 3, api.ErrEnd)
	fails(t, "!Rule: ", wide, 7, api.ErrEnd)
	fails(t, "!Rule: a\r", wide, 9, api.ErrEnd)
	fails(t, "!Rule: \n", wide, 7, api.ErrSyntax)
	fails(t, "!Rule: \r\n", wide, 7, api.ErrSyntax)
	fails(t, "!Rule:  a\n", wide, 7, api.ErrSyntax)
	fails(t, "!Rule: a \n", wide, 8, api.ErrSyntax)
	fails(t, "!Rule: a\n!Rule: b c\n", wide, 17, api.ErrSyntax)
}

// TestRules lets rules of one to forty bytes, each from 33 to 126, and no others. P15.1.
func TestRules(t *testing.T) {
	for _, n := range []int{1, 2, 39, 40} {
		rule := strings.Repeat("~", n)
		reads(t, "!Rule: "+rule, wide, rule)
		reads(t, "!Rule: "+rule+"\r\nO", wide, rule, spot{0, 0})
	}
	for _, n := range []int{41, 42, 1000} {
		fails(t, "!Rule: "+strings.Repeat("!", n)+"\n", wide, 47, api.ErrSyntax)
	}
	for c := range 256 {
		rule := "a" + string([]byte{byte(c)})
		switch {
		case c == '\n':
			reads(t, "!Rule: "+rule, wide, "a")
		case c == '\r':
			fails(t, "!Rule: "+rule, wide, 9, api.ErrEnd)
		case c < 33 || c > 126:
			fails(t, "!Rule: "+rule, wide, 8, api.ErrSyntax)
			unhinted(t, "!Rule: "+rule)
		default:
			reads(t, "!Rule: "+rule, wide, rule)
		}
	}
}

// TestEachByte asks of each byte, wherever one may come. P15.1, P15.3.
func TestEachByte(t *testing.T) {
	for _, ahead := range []string{"", ".", "O", "!", "!Rule:", "!Rule: ", "!Rule: a", "\r", "O\r", "!\r", "!Rule: a\r", "\n", "O\n", "!a\n", "\r\n", "!Rule: a\n"} {
		for c := range 256 {
			answers(t, ahead+string([]byte{byte(c)}), wide)
			answers(t, ahead+string([]byte{byte(c)})+"O", api.Limits{Box: 1, Nodes: 9})
		}
	}
}

// TestAllSmall asks of all bytes up to some length that are of a few kinds. P15.1, P15.3.
func TestAllSmall(t *testing.T) {
	all(t, "", []string{"!", ".", "O", "\n", "\r", "x"}, 5)
	all(t, "", []string{"!", "!Rule: ", "!Rule:", " ", "O", "..O", "\n", "\r\n", "~", "\x7f"}, 3)
	all(t, "!Rule: ", []string{"a", "Rule: ", "!", " ", "\n", "\r", "O"}, 4)
}

// all asks of what begins so, and has at most so many of the parts behind it; behind what can't go on of just one.
func all(t *testing.T, b string, parts []string, most int) {
	t.Helper()
	answers(t, b, wide)
	answers(t, b, api.Limits{Box: 2, Nodes: 100})
	if most == 0 || t.Failed() {
		return
	}
	if !open(b) {
		most = 1
	}
	for _, part := range parts {
		all(t, b+part, parts, most-1)
	}
}

// TestBox takes an O in the last column and row that there may be, and none further; what has no cell may be anywhere. P15.1.
func TestBox(t *testing.T) {
	for _, most := range []int{1, 2, 3, 7, 8, 9, 100, 999, 1000} {
		m := api.Limits{Box: most, Nodes: 100}
		dots, rows := strings.Repeat(".", most), strings.Repeat("\n", most)
		reads(t, dots[1:]+"O", m, "B3/S23", spot{0, 0})
		reads(t, rows[1:]+"O", m, "B3/S23", spot{0, 0})
		reads(t, dots+".\n"+rows+"....\n!O\n!Rule: a", m, "a")
		fails(t, dots+"O", m, most, api.ErrLimit)
		fails(t, rows+"O", m, most, api.ErrLimit)
		fails(t, "O"+dots[1:]+".O.O", m, most+1, api.ErrLimit)
		fails(t, rows+dots+"..OO", m, 2*most+2, api.ErrLimit)
		// A remark is no row; and what comes first is told.
		reads(t, "!\n"+rows[1:]+"!\n!\nO", m, "B3/S23", spot{0, 0})
		fails(t, dots+"Ox", m, most, api.ErrLimit)
		fails(t, dots+"xO", m, most, api.ErrSyntax)
		fails(t, rows+"O\r", m, most, api.ErrLimit)
	}
	fails(t, "..\n.O", api.Limits{Nodes: 9}, 4, api.ErrLimit)
	reads(t, "..\n!O", api.Limits{Nodes: 9}, "B3/S23")
	reads(t, "O"+strings.Repeat(".", 998)+"O"+strings.Repeat("\n", 999)+".O", wide, "B3/S23", spot{0, 0}, spot{999, 0}, spot{1, 999})
}

// TestHintBox knows no hint behind an O that is too far off within the greatest limits. P15.1.
func TestHintBox(t *testing.T) {
	dots, rows := strings.Repeat(".", 1000), strings.Repeat("\n", 1000)
	for _, b := range []string{dots[1:] + "O", rows[1:] + "O", dots + dots, rows + rows + ".\n!O"} {
		if h, ok := plain.Hint(b); h != "" || !ok {
			t.Errorf("Hint %q: got %q, %v", short(b), h, ok)
		}
		hinted(t, b+"\r")
	}
	for _, b := range []string{dots + "O", rows + "O", rows + "O\r", dots + "O\n!Rule: "} {
		unhinted(t, b)
	}
}

// TestNodes takes just so many nodes as there may be; that they are too many is told at the end. P15.1.
func TestNodes(t *testing.T) {
	for _, c := range []struct {
		b     string
		nodes int
	}{
		{"", 0}, {"..\n!\n", 0}, {"O", 1}, {"OO", 2}, {"OO\nOO", 2}, {"O..O", 4}, {"..\nO..O\n\n!O", 4},
		{"!Rule: x\nOO\nO", 2}, {"OO..\nOO\n..OO\n..OO\n", 3},
	} {
		w, _ := tell(c.b)
		on := home(w.on)
		if q := quad(t, whole(0), whole(0), on); len(q.Nodes) != c.nodes {
			t.Errorf("%q has %d nodes, not %d", c.b, len(q.Nodes), c.nodes)
		}
		reads(t, c.b, api.Limits{Box: 10, Nodes: c.nodes}, w.rule, on...)
		reads(t, c.b, api.Limits{Box: 10, Nodes: c.nodes + 1}, w.rule, on...)
		for nodes := range c.nodes {
			fails(t, c.b, api.Limits{Box: 10, Nodes: nodes}, len(c.b), api.ErrLimit)
			// All that is told of bytes comes ahead of it.
			fails(t, c.b+"\n\r", api.Limits{Box: 10, Nodes: nodes}, len(c.b)+2, api.ErrEnd)
			fails(t, c.b+"\nx", api.Limits{Box: 10, Nodes: nodes}, len(c.b)+1, api.ErrSyntax)
			hinted(t, c.b)
		}
	}
}

// TestLimits lets no other limits than those that may be, whatever the bytes. P15.1.
func TestLimits(t *testing.T) {
	least, most := -1<<63, 1<<63-1
	for _, m := range []api.Limits{{Box: -1}, {Nodes: -1}, {Box: 1001}, {Nodes: 100001}, {Box: least}, {Nodes: least}, {Box: most}, {Nodes: most}, {Box: -1, Nodes: 1000000}} {
		for _, b := range []string{"", "O", "x", "\r", "!Rule: ", "O..O"} {
			fails(t, b, m, 0, api.ErrArg)
		}
	}
	reads(t, "", api.Limits{}, "B3/S23")
	fails(t, "x", api.Limits{}, 0, api.ErrSyntax)
}

// TestHints tells a hint of what could go on, and none of what couldn't. P15.1.
func TestHints(t *testing.T) {
	for _, b := range []string{"\r", "O.\r", "!a\r", "!Rule: ", "!Rule: a\r", "O\n!Rule: ", "\n\r\n\r"} {
		hinted(t, b)
		if h, _ := plain.Hint(b); h == "" {
			t.Errorf("Hint %q: got none", b)
		}
	}
	for _, b := range []string{"x", "Ox", "\r\r", "!\r!", "!Rule: \n", "!Rule: \r", "!Rule: a b", "!Rule: " + strings.Repeat("a", 41)} {
		unhinted(t, b)
		unhinted(t, b+"\n")
	}
}

// TestMuch reads many lines and long ones. P15.1.
func TestMuch(t *testing.T) {
	const much = 1 << 20
	reads(t, "O"+strings.Repeat("\n", much)+strings.Repeat(".", much)+"\n!"+strings.Repeat("O", much), wide, "B3/S23", spot{0, 0})
	fails(t, "O"+strings.Repeat("\r\n", much)+strings.Repeat(".", much)+"x", wide, 3*much+1, api.ErrSyntax)
	fails(t, strings.Repeat(".", much)+"O", wide, much, api.ErrLimit)
	fails(t, strings.Repeat("!Rule: a\n", much)+"!Rule: ", wide, 9*much+7, api.ErrEnd)
	reads(t, strings.Repeat("!Rule: a\n", much)+"!Rule: b", wide, "b")
}

// numberer answers numbers that look like chance, the same ones each time.
type numberer uint32

// below is the next one, from 0 to below n.
func (r *numberer) below(n int) int {
	*r = *r*1664525 + 1013904223
	return int(*r>>8) % n
}

// drawings are spots of which all are from 0 to below 1000, but not always at home.
func drawings() [][]spot {
	l := [][]spot{nil, {{0, 0}}, {{3, 4}}, {{0, 999}, {999, 0}}, {{500, 0}, {500, 999}}, {{7, 7}, {7, 7}, {9, 8}}}
	r := numberer(15)
	for i := range 60 {
		var on []spot
		side := 1 + r.below(4+4*i)
		for range 1 + r.below(3*side) {
			on = append(on, spot{r.below(side), r.below(side)})
		}
		l = append(l, on)
	}
	return l
}

// corners are columns, or rows, from which on a drawing may be.
func corners() []*mathbig.Int {
	edge := new(mathbig.Int).Lsh(whole(1), far)
	return []*mathbig.Int{whole(0), whole(-1), whole(-500), whole(12345), new(mathbig.Int).Neg(edge), new(mathbig.Int).Sub(edge, whole(1000))}
}

// TestBack reads what is written, as it was, but at home. P15.2.
func TestBack(t *testing.T) {
	rules := []string{"B3/S23", "x", strings.Repeat("~", 40), "!Rule:", "B36/S23"}
	for i, on := range drawings() {
		for k, from := range corners() {
			p := api.Pattern{Rule: rules[i%len(rules)], Quad: quad(t, from, corners()[(i+k)%6], on)}
			b, e := flat.Plain(p, wide)
			if e != api.OK {
				t.Fatalf("%v is not written: %d", on, e)
			}
			reads(t, b, wide, p.Rule, home(on)...)
			back, _, _ := plain.Read(b, wide)
			if again, e := flat.Plain(back, wide); e != api.OK || again != b {
				t.Errorf("%q is written as %q, %d", short(b), short(again), e)
			}
		}
	}
}

// TestThere finds ahead of a wrong byte that bytes can go on, and behind it that nothing can help. P15.3.
func TestThere(t *testing.T) {
	r := numberer(3)
	parts := []string{"!", "!Rule: ", "!Rule: B3/S23\n", ".", "O", "..O.\n", "\n", "\r\n", "\r", "OO\r\n", "!Rule: a", "! a\r\n"}
	wrong := []string{"x", " ", "\r\r", "\x00", "\x80", "!Rule: \n", "!Rule: a\tb", "O!", "!\rO", "!Rule: " + strings.Repeat("B", 41)}
	for range 4000 {
		b := ""
		for range r.below(8) {
			b += parts[r.below(len(parts))]
		}
		b += wrong[r.below(len(wrong))]
		_, at, e := plain.Read(b, wide)
		if e != api.ErrSyntax {
			continue
		}
		h, ok := plain.Hint(b[:at])
		if _, _, e := plain.Read(b[:at]+h, wide); !ok || e != api.OK {
			t.Errorf("Hint %q: got %q, %v, by which it is %d", b[:at], h, ok, e)
		}
		for _, more := range []string{"", "\n", "x", "O", "\r\n", "!Rule: a\n", b} {
			fails(t, b[:at+1]+more, wide, at, api.ErrSyntax)
			unhinted(t, b[:at+1]+more)
		}
	}
}
