package rules_test

import (
	"slices"
	"strings"
	"testing"
	"unsafe"

	"stylus/api"
	"stylus/rules"
	"stylus/trial"
)

// P8.5

// Neither rules that are handed in nor the room behind their end are changed.
func TestHandedInStays(t *testing.T) {
	all := append(parse(t, rich), wrongRules()...)
	for n := range all {
		l := slices.Clone(all)
		rules.Print(l[:n]...)
		rules.Print(l[n:]...)
		rules.Sign(l[:n], "ind")
		rules.Mark(l[:n], '/')
		rules.Digit(l[:n], '9')
		rules.May(l[n])
		if !slices.Equal(l, all) {
			t.Fatalf("%d rules: %v", n, l)
		}
	}
}

// What is answered is the caller's: what he makes of it is not seen by the next call.
func TestAnswersNewMemory(t *testing.T) {
	first := rules.Names()
	clear(first[:cap(first)])
	if got := rules.Names(); !slices.Equal(got, names) {
		t.Errorf("%q", got)
	}
	one, again := parse(t, rich), parse(t, rich)
	clear(one[:cap(one)])
	want, _, _ := parsed(rich)
	if !slices.Equal(again, want) || !slices.Equal(parse(t, rich), want) {
		t.Errorf("%v", again)
	}
}

// within tells whether a text has a byte of memory in common with another one.
func within(a, b string) bool {
	x, y := uintptr(unsafe.Pointer(unsafe.StringData(a))), uintptr(unsafe.Pointer(unsafe.StringData(b)))
	return a != "" && b != "" && x < y+uintptr(len(b)) && y < x+uintptr(len(a))
}

// Texts of an answer are no pieces of what was handed in.
func TestAnswersShareNothing(t *testing.T) {
	text := strings.Clone(rich)
	l := parse(t, text)
	for i, x := range l {
		if within(x.Left, text) || within(x.Cells, text) {
			t.Errorf("of line %d something is a piece of the text", x.Line)
		}
		l[i].Cells += "\x01\x02" // longer than one byte, each of which has its place
	}
	for _, x := range l {
		var got string
		switch x.What {
		case 6:
			got = rules.Mark(l, x.Left[0])
		case 7:
			got = rules.Digit(l, x.Left[0])
		case 8:
			got = rules.Sign(l, x.Left)
		default:
			continue
		}
		if got != x.Cells || within(got, x.Cells) {
			t.Errorf("the cells of %q, %q, are a rule's own", x.Left, got)
		}
	}
}

// The same calls have the same answers, whatever was asked between.
func TestEachTime(t *testing.T) {
	l, _, _ := parsed(rich)
	for range 20 {
		checkParse(t, rich, l...)
		checkFault(t, rich+"x", 1+strings.Count(rich, "\n"), api.ErrTable)
		checkFault(t, strings.Repeat("any a 1 1\n", 401), 401, api.ErrBound)
		checkPrint(t, printed(l), l...)
		checkPrintWrong(t, api.ErrArg, append(slices.Clone(l), api.Rule{})...)
	}
}

// P8.6

// printed is the lines of rules that may be.
func printed(l []api.Rule) string {
	s := ""
	for _, x := range l {
		s += lineOf(x) + "\n"
	}
	return s
}

// renumbered is rules with their places among them as Lines.
func renumbered(l []api.Rule) []api.Rule {
	l = slices.Clone(l)
	for i := range l {
		l[i].Line = i + 1
	}
	return l
}

// checkThereAndBack asks that rules that may be are printed, and parsed from that as they are, but for Lines.
func checkThereAndBack(t *testing.T, l []api.Rule) {
	t.Helper()
	s, e := rules.Print(l...)
	if e != api.OK {
		t.Fatalf("Print(%v): %d", l, e)
	}
	checkParse(t, s, renumbered(l)...)
}

// checkBackAndThere asks that what is parsed may be, and goes there and back.
func checkBackAndThere(t *testing.T, text string) {
	t.Helper()
	l := parse(t, text)
	for _, x := range l {
		checkMay(t, x, true)
	}
	checkThereAndBack(t, l)
	s, _ := rules.Print(l...)
	if again, _ := rules.Print(parse(t, s)...); again != s {
		t.Fatalf("%q, printed, parsed, printed, is %q", trial.Shown(s), trial.Shown(again))
	}
}

func TestThereAndBack(t *testing.T) {
	one, other := parse(t, rich), parse(t, ordinary())
	slices.Reverse(other)
	for _, l := range [][]api.Rule{nil, one, other, slices.Concat(one, other, one, other), slices.Repeat(one[:1], 400)} {
		checkThereAndBack(t, l)
	}
}

// Each Left that may be with each Prio, and each cell.
func TestThereAndBackOfEach(t *testing.T) {
	var l []api.Rule
	for what := 1; what <= 5; what++ {
		for prio := range 100 {
			cells := []byte{byte(1 + prio%63), byte(1 + prio*7%63), byte(63 - prio%63), byte(1 + prio*5%63)}
			l = append(l, api.Rule{What: what, Left: smalls[prio%12 : prio%12+1+prio%12], Cells: string(cells[:1+prio%4]), Prio: prio, Line: 99 - prio})
		}
	}
	for i := range len(marks) {
		l = append(l, api.Rule{What: 6, Left: marks[i : i+1], Cells: "\x3f"})
	}
	for i := range len(digits) {
		l = append(l, api.Rule{What: 7, Left: digits[i : i+1], Cells: "\x01\x20"})
	}
	for _, name := range names {
		l = append(l, api.Rule{What: 8, Left: name, Cells: "\x01\x20\x15"})
	}
	for len(l) > 0 {
		n := min(len(l), 400)
		checkThereAndBack(t, l[:n])
		l = l[n:]
	}
}

func TestBackAndThere(t *testing.T) {
	for _, text := range []string{"", "\n", "# x", "any a 1 1", "\n\n#\nany a 1 1\n\nmark . 1\n#", rich, ordinary(), rich + ordinary() + rich, strings.Repeat("\nany a 1 1", 400)} {
		checkBackAndThere(t, text)
	}
}

func TestBackAndThereOfShortTexts(t *testing.T) {
	right := 0
	for l := range trial.Rows([]string{"any a ", "sign e+ 5", "1", "2", "-", " ", "0", "\n", "#"}, 5) {
		text := strings.Join(l, "")
		if _, _, e := rules.Parse(text); e == api.OK {
			right++
			checkBackAndThere(t, text)
		}
	}
	if right < 1000 {
		t.Errorf("%d texts", right)
	}
}

// Two unlike rules have unlike lines.
func TestToldApart(t *testing.T) {
	seen := map[string]api.Rule{}
	for what := 1; what <= 8; what++ {
		for _, left := range append([]string{"a", "ab", "and", "-", ".", "1", "12"}, names...) {
			for _, cells := range []string{"\x01", "\x02", "\x03", "\x01\x02", "\x02\x01", "\x01\x01"} {
				for _, prio := range []int{0, 1, 10, 11} {
					x := api.Rule{What: what, Left: left, Cells: cells, Prio: prio}
					s, e := rules.Print(x)
					if e != api.OK {
						continue
					}
					if y, ok := seen[s]; ok {
						t.Fatalf("%v and %v are both %q", x, y, s)
					}
					seen[s] = x
				}
			}
		}
	}
	if len(seen) < 1000 {
		t.Errorf("%d rules", len(seen))
	}
}
