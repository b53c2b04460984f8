package cell_test

import (
	"math/bits"
	"slices"
	"strings"
	"testing"

	"stylus/api"
	"stylus/cell"
	"stylus/trial"
)

// signs is the document's row, written out here, so that no test leans on the program's own.
const signs = " A1B'K2L@CIF/MSP\"E3H9O6R^DJG>NTQ,*5<-U8V.%[$+X!&;:4\\0Z7(_?W]#Y)="

// dotsOf is the digits of a cell's dots, by the weight of each dot.
func dotsOf(c byte) string {
	dots := ""
	for _, x := range []struct {
		weight int
		digit  string
	}{{1, "1"}, {2, "2"}, {4, "3"}, {8, "4"}, {16, "5"}, {32, "6"}} {
		if int(c)%64/x.weight%2 == 1 {
			dots += x.digit
		}
	}
	return dots
}

// cellOf is the one of the 64 cells that has these dots, by going through all but the blank.
func cellOf(dots string) (byte, bool) {
	for c := byte(1); c < 64; c++ {
		if dotsOf(c) == dots {
			return c, true
		}
	}
	return 0, false
}

// row is the cells, or bytes, from first to last.
func row(first, last int) string {
	var l []byte
	for i := first; i <= last; i++ {
		l = append(l, byte(i))
	}
	return string(l)
}

// P2.1

func checkOf(t *testing.T, dots string, want byte, ok bool) {
	t.Helper()
	if c, is := cell.Of(dots); c != want || is != ok {
		t.Fatalf("Of(%q) = %d, %v, want %d, %v", trial.Shown(dots), c, is, want, ok)
	}
}

func TestOfExamples(t *testing.T) {
	checkOf(t, "1", 1, true)
	checkOf(t, "246", 42, true)
	checkOf(t, "21", 0, false)
	checkOf(t, "7", 0, false)
	checkOf(t, "", 0, false)
}

func TestOfEachDotAndAll(t *testing.T) {
	for i, dots := range []string{"1", "2", "3", "4", "5", "6"} {
		checkOf(t, dots, []byte{1, 2, 4, 8, 16, 32}[i], true)
	}
	checkOf(t, "123456", 63, true)
}

func TestOfEachCell(t *testing.T) {
	for c := byte(1); c < 64; c++ {
		checkOf(t, dotsOf(c), c, true)
	}
}

func TestOfShortTexts(t *testing.T) {
	for s := range trial.Texts("123456", 5) {
		want, ok := cellOf(s)
		checkOf(t, s, want, ok)
	}
	for s := range trial.Texts("0156789/: -a\x00\xff", 3) {
		want, ok := cellOf(s)
		checkOf(t, s, want, ok)
	}
}

// One byte that is no dot's digit, at any place, and there is no cell.
func TestOfWhatIsNoDigit(t *testing.T) {
	for i := range 256 {
		if i >= '1' && i <= '6' {
			continue
		}
		other := string([]byte{byte(i)})
		for _, dots := range []string{other, other + "1", "1" + other, "6" + other, "1" + other + "6", "123456" + other} {
			checkOf(t, dots, 0, false)
		}
	}
}

func TestOfTooManyOrEqualDigits(t *testing.T) {
	for _, dots := range []string{"11", "66", "1233", "1123456", "1234566", "1234567", "0123456", "654321", "1234561", strings.Repeat("1", 70000)} {
		checkOf(t, dots, 0, false)
	}
}

// Digits of other scripts, and runes whose last byte, or rest by 64, is a digit's, are no digits.
func TestOfOtherRunes(t *testing.T) {
	for _, r := range []rune{0x131, 0x136, 0x171, 0x431, 0x661, 0x2074, 0x2801, 0xff11, 0x10031} {
		checkOf(t, string(r), 0, false)
		checkOf(t, "1"+string(r), 0, false)
	}
	checkOf(t, "\xc0\xb1", 0, false) // a 1 in two bytes, which is no UTF-8
}

func TestDotsOfEachByte(t *testing.T) {
	if a, b := cell.Dots(63), cell.Dots(0); a != "123456" || b != "" {
		t.Fatalf("Dots(63), Dots(0) = %q, %q", a, b)
	}
	for i := range 256 {
		if got, want := cell.Dots(byte(i)), dotsOf(byte(i)); got != want {
			t.Fatalf("Dots(%d) = %q, want %q", i, got, want)
		}
	}
}

// P2.2

func checkParse(t *testing.T, s, want string, place int, err api.Errno) {
	t.Helper()
	if cells, at, e := cell.Parse(s); cells != want || at != place || e != err {
		t.Fatalf("Parse(%q) = %v, %d, %d, want %v, %d, %d", trial.Shown(s), []byte(cells), at, e, []byte(want), place, err)
	}
}

func TestParseExamples(t *testing.T) {
	checkParse(t, "5-145", "\x10\x19", 0, api.OK)
	checkParse(t, "1--2", "", 2, api.ErrForm)
	checkParse(t, "", "", 0, api.ErrForm)
}

func TestParseOneToMaxCellsAndOneMore(t *testing.T) {
	checkParse(t, "12", "\x03", 0, api.OK)
	checkParse(t, "12-3", "\x03\x04", 0, api.OK)
	checkParse(t, "12-3-456", "\x03\x04\x38", 0, api.OK)
	checkParse(t, "12-3-456-123456", "\x03\x04\x38\x3f", 0, api.OK)
	checkParse(t, "12-3-456-123456-1", "", 16, api.ErrForm)
	checkParse(t, "12-3-456-123456-", "", 16, api.ErrForm)
	checkParse(t, "1-1-1-1-1-1-1", "", 8, api.ErrForm)
	checkParse(t, strings.Repeat("1-", 35000)+"1", "", 8, api.ErrForm)
}

// The first part that may not be is told, whatever stands behind it.
func TestParseWrongParts(t *testing.T) {
	for s, place := range map[string]int{
		"-":             0,
		"-1":            0,
		"1-":            2,
		"--":            0,
		"7":             0,
		"0-1":           0,
		"21":            0,
		"11":            0,
		"1-21":          2,
		"12-21-7":       3,
		"123456-x-y":    7,
		"1-2-3-4 ":      6,
		" 1":            0,
		"1- 2":          2,
		"1-2-x-1-1-1":   4,
		"1-1-1-x-1":     6,
		"1-2-34-\xff":   7,
		"1\u20132":      0,
		"1_2":           0,
		"1\n":           0,
		"5-\uff11":      2,
		"1-1-1-1234567": 6,
	} {
		checkParse(t, s, "", place, api.ErrForm)
	}
}

// parse says the document's words on all parts at once.
func parse(s string) (string, int, api.Errno) {
	cells := ""
	at := 0
	for i, part := range strings.Split(s, "-") {
		c, ok := cellOf(part)
		if !ok || i == 4 {
			return "", at, api.ErrForm
		}
		cells += string([]byte{c})
		at += len(part) + 1
	}
	return cells, 0, api.OK
}

func TestParseShortTexts(t *testing.T) {
	for s := range trial.Texts("12-", 10) {
		want, place, err := parse(s)
		checkParse(t, s, want, place, err)
	}
	for s := range trial.Texts("16-0x", 5) {
		want, place, err := parse(s)
		checkParse(t, s, want, place, err)
	}
}

func checkPrint(t *testing.T, cells, want string, err api.Errno) {
	t.Helper()
	if s, e := cell.Print(cells); s != want || e != err {
		t.Fatalf("Print(%v) = %q, %d, want %q, %d", []byte(trial.Shown(cells)), s, e, want, err)
	}
}

func TestPrint(t *testing.T) {
	checkPrint(t, "\x10\x19", "5-145", api.OK)
	checkPrint(t, "\x03", "12", api.OK)
	checkPrint(t, "\x03\x04\x38", "12-3-456", api.OK)
	checkPrint(t, "\x03\x04\x38\x3f", "12-3-456-123456", api.OK)
	checkPrint(t, "\x20\x20\x20\x20", "6-6-6-6", api.OK)
}

func TestPrintEachByteAlone(t *testing.T) {
	for i := range 256 {
		s := string([]byte{byte(i)})
		if i > 0 && i < 64 {
			checkPrint(t, s, dotsOf(byte(i)), api.OK)
		} else {
			checkPrint(t, s, "", api.ErrArg)
		}
	}
}

func TestPrintNoneOrTooMany(t *testing.T) {
	checkPrint(t, "", "", api.ErrArg)
	checkPrint(t, "\x01\x01\x01\x01\x01", "", api.ErrArg)
	checkPrint(t, strings.Repeat("\x01", 70000), "", api.ErrArg)
}

// A blank, or a byte that is no cell, at any place, and there is no text.
func TestPrintWrongBytes(t *testing.T) {
	for _, wrong := range []byte{0, 64, 65, 127, 128, 129, 255} {
		for size := 1; size <= 4; size++ {
			for at := range size {
				cells := []byte("\x01\x3f\x20\x07")[:size]
				cells[at] = wrong
				checkPrint(t, string(cells), "", api.ErrArg)
			}
		}
	}
}

// P2.3

func TestSignExamples(t *testing.T) {
	for c, want := range map[byte]byte{1: 'A', 0: ' ', 63: '='} {
		if s, ok := cell.Sign(c); s != want || !ok {
			t.Errorf("Sign(%d) = %q, %v", c, s, ok)
		}
	}
	if c, ok := cell.From('W'); c != 58 || !ok {
		t.Errorf("From('W') = %d, %v", c, ok)
	}
	if c, ok := cell.From('a'); c != 0 || ok {
		t.Errorf("From('a') = %d, %v", c, ok)
	}
}

func TestSignOfEachByte(t *testing.T) {
	for i := range 256 {
		var want byte
		if i < 64 {
			want = signs[i]
		}
		if s, ok := cell.Sign(byte(i)); s != want || ok != (i < 64) {
			t.Fatalf("Sign(%d) = %q, %v, want %q", i, s, ok, want)
		}
	}
}

// The letters of Braille, a to z, by their dots: so the row is pinned by more than its own text.
func TestSignOfLetters(t *testing.T) {
	for i, dots := range strings.Fields("1 12 14 145 15 124 1245 125 24 245 13 123 134 1345 135 1234 12345 1235 234 2345 136 1236 2456 1346 13456 1356") {
		c, _ := cell.Of(dots)
		if s, ok := cell.Sign(c); s != byte('A'+i) || !ok {
			t.Errorf("dots %s stand as %q, want %q", dots, s, byte('A'+i))
		}
	}
}

func TestFromEachByte(t *testing.T) {
	for i := range 256 {
		at := strings.IndexByte(signs, byte(i))
		want := byte(max(at, 0))
		if c, ok := cell.From(byte(i)); c != want || ok != (at >= 0) {
			t.Fatalf("From(%q) = %d, %v, want %d", byte(i), c, ok, want)
		}
	}
}

func checkSigns(t *testing.T, cells, want string, err api.Errno) {
	t.Helper()
	if s, e := cell.Signs(cells); s != want || e != err {
		t.Fatalf("Signs(%v) = %q, %d, want %q, %d", []byte(trial.Shown(cells)), trial.Shown(s), e, trial.Shown(want), err)
	}
}

func TestSigns(t *testing.T) {
	checkSigns(t, "\x13\x01\x25", "HAU", api.OK)
	checkSigns(t, "", "", api.OK)
	checkSigns(t, "\x00", " ", api.OK)
	checkSigns(t, "\x00\x3f\x00", " = ", api.OK)
	checkSigns(t, row(0, 63), signs, api.OK)
	checkSigns(t, strings.Repeat(row(0, 63), 1000), strings.Repeat(signs, 1000), api.OK)
}

func TestSignsOfBytesThatAreNoCell(t *testing.T) {
	for i := 64; i < 256; i++ {
		wrong := string([]byte{byte(i)})
		for _, cells := range []string{wrong, wrong + "\x01\x02", "\x01" + wrong + "\x02", "\x01\x02" + wrong, row(0, 63) + wrong} {
			checkSigns(t, cells, "", api.ErrArg)
		}
	}
}

func checkCells(t *testing.T, s, want string, place int, err api.Errno) {
	t.Helper()
	if cells, at, e := cell.Cells(s); cells != want || at != place || e != err {
		t.Fatalf("Cells(%q) = %v, %d, %d, want %v, %d, %d", trial.Shown(s), []byte(trial.Shown(cells)), at, e, []byte(trial.Shown(want)), place, err)
	}
}

func TestCells(t *testing.T) {
	checkCells(t, "HAU", "\x13\x01\x25", 0, api.OK)
	checkCells(t, "", "", 0, api.OK)
	checkCells(t, " ", "\x00", 0, api.OK)
	checkCells(t, "= =", "\x3f\x00\x3f", 0, api.OK)
	checkCells(t, signs, row(0, 63), 0, api.OK)
	checkCells(t, strings.Repeat(signs, 1000), strings.Repeat(row(0, 63), 1000), 0, api.OK)
}

func TestCellsOfBytesThatAreNoSign(t *testing.T) {
	for i := range 256 {
		if strings.IndexByte(signs, byte(i)) >= 0 {
			continue
		}
		wrong := string([]byte{byte(i)})
		checkCells(t, wrong, "", 0, api.ErrForm)
		checkCells(t, wrong+"AB", "", 0, api.ErrForm)
		checkCells(t, "A"+wrong+"B", "", 1, api.ErrForm)
		checkCells(t, "AB"+wrong, "", 2, api.ErrForm)
		checkCells(t, signs+wrong, "", 64, api.ErrForm)
		checkCells(t, "A"+wrong+wrong, "", 1, api.ErrForm)
		checkCells(t, "ABC"+wrong+"abc", "", 3, api.ErrForm)
	}
	checkCells(t, strings.Repeat("A", 70000)+"a", "", 70000, api.ErrForm)
}

// P2.4

func checkCount(t *testing.T, cells string, want int) {
	t.Helper()
	if n := cell.Count(cells); n != want {
		t.Fatalf("Count(%v) = %d, want %d", []byte(trial.Shown(cells)), n, want)
	}
}

func TestCount(t *testing.T) {
	checkCount(t, "\x13\x01\x25", 7)
	checkCount(t, "", 0)
	checkCount(t, "\x00", 0)
	checkCount(t, "\x3f", 6)
	checkCount(t, row(0, 63), 64*6/2)
	checkCount(t, row(0, 255), 4*64*6/2)
	checkCount(t, strings.Repeat("\x3f", 70000), 420000)
}

func TestCountOfEachByte(t *testing.T) {
	for i := range 256 {
		want := bits.OnesCount(uint(i % 64))
		c := string([]byte{byte(i)})
		checkCount(t, c, want)
		checkCount(t, "\x07"+c+"\x00\x08", want+4)
	}
}

// P2.5

func TestNothingBesideAnErrorOrFalse(t *testing.T) {
	for _, dots := range []string{"1237", "1x", "66", "321", "456a"} {
		checkOf(t, dots, 0, false)
	}
	checkParse(t, "12-3-x", "", 5, api.ErrForm)
	checkParse(t, "1-2-3-4-5", "", 8, api.ErrForm)
	checkPrint(t, "\x01\x02\x00", "", api.ErrArg)
	checkPrint(t, "\x01\x02\x03\x04\x05", "", api.ErrArg)
	checkSigns(t, "\x01\x02\x40", "", api.ErrArg)
	checkCells(t, "ABa", "", 2, api.ErrForm)
	for _, c := range []byte{64, 127, 255} {
		if s, ok := cell.Sign(c); s != 0 || ok {
			t.Errorf("Sign(%d) = %q, %v", c, s, ok)
		}
	}
	for _, b := range []byte{'a', '{', '\n', '\f', 0, 255} {
		if c, ok := cell.From(b); c != 0 || ok {
			t.Errorf("From(%q) = %d, %v", b, c, ok)
		}
	}
}

// P2.6

func checkPrintedAndParsed(t *testing.T, cells string) {
	t.Helper()
	s, e := cell.Print(cells)
	if e == api.OK {
		checkParse(t, s, cells, 0, api.OK)
	} else if cells != "" && !strings.Contains(cells, "\x00") {
		t.Fatalf("%v has no text", []byte(cells))
	}
}

func TestPrintedAndParsed(t *testing.T) {
	for cells := range trial.Texts(row(0, 63), 2) {
		checkPrintedAndParsed(t, cells)
	}
	for cells := range trial.Texts("\x00\x01\x08\x20\x2a\x3f", 4) {
		checkPrintedAndParsed(t, cells)
	}
}

func TestParsedAndPrinted(t *testing.T) {
	parsed := 0
	for s := range trial.Texts("136-", 8) {
		if cells, _, e := cell.Parse(s); e == api.OK {
			parsed++
			checkPrint(t, cells, s, api.OK)
		}
	}
	if parsed == 0 {
		t.Fatal("no text was parsed")
	}
}

func TestSignsAndCellsThereAndBack(t *testing.T) {
	for cells := range trial.Texts(row(0, 63), 2) {
		s, e := cell.Signs(cells)
		if e != api.OK || len(s) != len(cells) {
			t.Fatalf("Signs(%v) = %q, %d", []byte(cells), s, e)
		}
		checkCells(t, s, cells, 0, api.OK)
	}
	for s := range trial.Texts(signs, 2) {
		cells, _, e := cell.Cells(s)
		if e != api.OK || len(s) != len(cells) {
			t.Fatalf("Cells(%q) = %v, %d", s, []byte(cells), e)
		}
		checkSigns(t, cells, s, api.OK)
	}
}

func TestSignAndFromThereAndBack(t *testing.T) {
	for i := range 256 {
		b := byte(i)
		if s, ok := cell.Sign(b); ok {
			if c, is := cell.From(s); c != b || !is {
				t.Errorf("%d has the sign %q, which is that of %d, %v", b, s, c, is)
			}
		}
		if c, ok := cell.From(b); ok {
			if s, is := cell.Sign(c); s != b || !is {
				t.Errorf("%q is the sign of %d, whose sign is %q, %v", b, c, s, is)
			}
		}
	}
}

// P2.7

func TestAllToldApart(t *testing.T) {
	var allSigns []byte
	var allDots []string
	for c := range byte(64) {
		s, _ := cell.Sign(c)
		if slices.Contains(allSigns, s) {
			t.Errorf("a second cell, %d, has the sign %q", c, s)
		}
		dots := cell.Dots(c)
		if slices.Contains(allDots, dots) {
			t.Errorf("a second cell, %d, has the dots %q", c, dots)
		}
		allSigns = append(allSigns, s)
		allDots = append(allDots, dots)
	}
}
