package rules_test

import (
	"slices"
	"strings"
	"testing"

	"stylus/api"
	"stylus/rules"
	"stylus/trial"
)

func checkPrint(t *testing.T, want string, l ...api.Rule) {
	t.Helper()
	if s, e := rules.Print(l...); s != want || e != api.OK {
		t.Fatalf("Print(%v) = %q, %d, want %q", l, trial.Shown(s), e, trial.Shown(want))
	}
}

// checkPrintWrong asks for the error, and for nothing beside it.
func checkPrintWrong(t *testing.T, err api.Errno, l ...api.Rule) {
	t.Helper()
	if s, e := rules.Print(l...); s != "" || e != err {
		t.Fatalf("Print of %d rules = %q, %d, want %d", len(l), trial.Shown(s), e, err)
	}
}

// P8.3

func TestPrintExamples(t *testing.T) {
	checkPrint(t, "any and 12346 1\nmark . 256\n", parse(t, "any and 12346 1\n# x\nmark . 256")...)
}

func TestPrintOfNothing(t *testing.T) {
	checkPrint(t, "")
	checkPrint(t, "", []api.Rule{}...)
	checkPrint(t, "", parse(t, rich)[:0]...)
}

func TestPrintOfEachWhat(t *testing.T) {
	for i, word := range []string{"any", "begin", "inner", "end", "word"} {
		x := api.Rule{What: i + 1, Left: "ab", Cells: "\x03\x04", Prio: 7, Line: 5}
		checkPrint(t, word+" ab 12-3 7\n", x)
		for _, left := range []string{"q", smalls[:12]} {
			x.Left = left
			checkPrint(t, word+" "+left+" 12-3 7\n", x)
		}
		for prio, figures := range map[int]string{0: "0", 1: "1", 9: "9", 10: "10", 99: "99"} {
			x.Prio = prio
			checkPrint(t, word+" "+x.Left+" 12-3 "+figures+"\n", x)
		}
	}
	for i := range len(marks) {
		checkPrint(t, "mark "+marks[i:i+1]+" 256\n", api.Rule{What: 6, Left: marks[i : i+1], Cells: "\x32", Line: 5})
	}
	for i := range len(digits) {
		checkPrint(t, "digit "+digits[i:i+1]+" 1245\n", api.Rule{What: 7, Left: digits[i : i+1], Cells: "\x1b", Line: -5})
	}
	for _, name := range names {
		checkPrint(t, "sign "+name+" 6-6-123456-1\n", api.Rule{What: 8, Left: name, Cells: "\x20\x20\x3f\x01"})
	}
}

func TestPrintOfEachCell(t *testing.T) {
	for c := byte(1); c < 64; c++ {
		checkPrint(t, "any a "+dotsOf(c)+" 0\nsign ind 1-"+dotsOf(c)+"\n", api.Rule{What: 1, Left: "a", Cells: string([]byte{c})}, api.Rule{What: 8, Left: "ind", Cells: string([]byte{1, c})})
	}
}

// Rules are printed in their order, whatever their Lines are, and as often as they stand there.
func TestPrintInOrder(t *testing.T) {
	a, b := api.Rule{What: 5, Left: "z", Cells: "\x01", Prio: 9, Line: 7}, api.Rule{What: 1, Left: "a", Cells: "\x02", Line: 7}
	checkPrint(t, "word z 1 9\nany a 2 0\n", a, b)
	checkPrint(t, "any a 2 0\nword z 1 9\n", b, a)
	checkPrint(t, "any a 2 0\nany a 2 0\nword z 1 9\n", b, b, a)
	a.Line, b.Line = -1, 0
	checkPrint(t, "word z 1 9\nany a 2 0\n", a, b)
}

// A rule that may not be, at any place.
func TestPrintOfWrongRules(t *testing.T) {
	right := parse(t, rich)
	for _, wrong := range wrongRules() {
		checkPrintWrong(t, api.ErrArg, wrong)
		for _, at := range []int{0, 1, 20, len(right)} {
			checkPrintWrong(t, api.ErrArg, slices.Insert(slices.Clone(right), at, wrong)...)
		}
	}
}

// wrongRules is rules that may not be, each for one thing alone.
func wrongRules() []api.Rule {
	return []api.Rule{
		{}, {What: 0, Left: "a", Cells: "\x01"}, {What: 9, Left: "a", Cells: "\x01"}, {What: -1, Left: "cap", Cells: "\x01"},
		{What: 1, Left: "", Cells: "\x01"}, {What: 1, Left: smalls[:13], Cells: "\x01"}, {What: 2, Left: "A", Cells: "\x01"}, {What: 3, Left: "a b", Cells: "\x01"}, {What: 4, Left: "a1", Cells: "\x01"}, {What: 5, Left: ".", Cells: "\x01"}, {What: 5, Left: "a\n", Cells: "\x01"},
		{What: 6, Left: "a", Cells: "\x01"}, {What: 6, Left: "", Cells: "\x01"}, {What: 6, Left: "..", Cells: "\x01"}, {What: 6, Left: " ", Cells: "\x01"}, {What: 6, Left: "#", Cells: "\x01"},
		{What: 7, Left: "a", Cells: "\x01"}, {What: 7, Left: "12", Cells: "\x01"}, {What: 7, Left: "", Cells: "\x01"},
		{What: 8, Left: "x", Cells: "\x01"}, {What: 8, Left: "", Cells: "\x01"}, {What: 8, Left: "Cap", Cells: "\x01"}, {What: 8, Left: "cap caps", Cells: "\x01"},
		{What: 1, Left: "a", Cells: ""}, {What: 1, Left: "a", Cells: "\x00"}, {What: 1, Left: "a", Cells: "\x01\x00"}, {What: 1, Left: "a", Cells: "\x40"}, {What: 6, Left: ".", Cells: "\xff"}, {What: 8, Left: "cap", Cells: "\x01\x01\x01\x01\x01"},
		{What: 1, Left: "a", Cells: "\x01", Prio: -1}, {What: 5, Left: "a", Cells: "\x01", Prio: 100}, {What: 6, Left: ".", Cells: "\x01", Prio: 1}, {What: 7, Left: "7", Cells: "\x01", Prio: -1}, {What: 8, Left: "cap", Cells: "\x01", Prio: 99},
	}
}

func TestPrintOfAsManyRules(t *testing.T) {
	x := api.Rule{What: 2, Left: smalls[:12], Cells: "\x3f\x3f\x3f\x3f", Prio: 99}
	line := "begin abcdefghijkl 123456-123456-123456-123456 99\n"
	checkPrint(t, strings.Repeat(line, 399), slices.Repeat([]api.Rule{x}, 399)...)
	checkPrint(t, strings.Repeat(line, 400), slices.Repeat([]api.Rule{x}, 400)...)
	checkPrintWrong(t, api.ErrBound, slices.Repeat([]api.Rule{x}, 401)...)
	checkPrintWrong(t, api.ErrBound, slices.Repeat([]api.Rule{x}, 70000)...)
}

// More than MaxRules goes ahead of a rule that may not be.
func TestPrintErrorsInOrder(t *testing.T) {
	checkPrintWrong(t, api.ErrArg, make([]api.Rule, 400)...)
	checkPrintWrong(t, api.ErrBound, make([]api.Rule, 401)...)
	right := slices.Repeat([]api.Rule{{What: 1, Left: "a", Cells: "\x01"}}, 400)
	for _, at := range []int{0, 200, 400} {
		checkPrintWrong(t, api.ErrBound, slices.Insert(slices.Clone(right), at, api.Rule{})...)
	}
	right[399] = api.Rule{}
	checkPrintWrong(t, api.ErrArg, right...)
}

// A rule has a line just if it may be, and that is it.
func TestPrintIsMay(t *testing.T) {
	n := 0
	for what := -1; what <= 9; what++ {
		for _, left := range []string{"", "a", "cap", "e+", ".", "-", "0", "9", "A", "a.", smalls[:12], smalls[:13]} {
			for _, cells := range []string{"", "\x00", "\x01", "\x3f\x2a", "\x01\x02\x03\x04", "\x01\x02\x03\x04\x05", "\x40"} {
				for _, prio := range []int{-1, 0, 1, 99, 100} {
					x := api.Rule{What: what, Left: left, Cells: cells, Prio: prio}
					checkMay(t, x, may(x))
					if !may(x) {
						checkPrintWrong(t, api.ErrArg, x)
						continue
					}
					n++
					checkPrint(t, lineOf(x)+"\n", x)
				}
			}
		}
	}
	if want := 5*3*3*3 + (2+2+2)*3; n != want {
		t.Errorf("%d rules may be, want %d", n, want)
	}
}
