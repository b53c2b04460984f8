package check_test

import (
	"fmt"
	"regexp"
	"slices"

	"stylus/api"
	"stylus/rules"
	"stylus/trial"
)

// The document's words are written out here, or in package trial, so that no test leans on the program's own.

const (
	smalls = "abcdefghijklmnopqrstuvwxyz"
	marks  = ".,;:!?'\"-()/"
	digits = "0123456789"
)

var names = []string{"cap", "caps", "num", "let", "e+", "e-", "s+", "s-", "n+", "n-", "blk", "cont", "ind"}

// tooLong is the lines of rules that have a cell too many to stand alone.
var tooLong = regexp.MustCompile(`\A(?:(?:any .|digit .|sign blk|sign cont|sign ind) \d+-|(?:sign num|sign let) \d+-\d+-)`)

// alone says the document's words on a rule by itself.
func alone(x api.Rule) bool {
	line, e := rules.Print(x)
	return e == api.OK && !tooLong.MatchString(line)
}

// begins tells whether some cells begin others, or are the same.
func begins(a, b string) bool {
	for i := range len(a) {
		if i == len(b) || a[i] != b[i] {
			return false
		}
	}
	return true
}

// somewhere tells whether some cells stand somewhere in others.
func somewhere(a, b string) bool {
	for i := range len(b) + 1 {
		if begins(a, b[i:]) {
			return true
		}
	}
	return false
}

// clash says the document's words on two rules.
func clash(x, y api.Rule) bool { return oneWay(x, y) || oneWay(y, x) }

func oneWay(x, y api.Rule) bool {
	switch {
	case x.What == y.What && x.Left == y.Left:
		return true
	case x.What == 5 && y.What == 5 && x.Cells == y.Cells:
		return true
	case x.What == 8 && slices.Contains([]string{"blk", "cont", "ind"}, x.Left) && somewhere(x.Cells, y.Cells):
		return true
	case x.What == 8 && y.What == 5 && begins(x.Cells, y.Cells):
		return true
	}
	for row := 1; row <= 3; row++ {
		if trial.InRow(x, row) && trial.InRow(y, row) && begins(x.Cells, y.Cells) {
			return true
		}
	}
	return false
}

// key tells what a rule is about.
func key(what int, left string) string { return fmt.Sprint(what, " ", left) }

// wants has the keys of what a table wants, in the document's order, each with the Left.
var wants = func() (all [][2]string) {
	for i := range len(smalls) {
		all = append(all, [2]string{key(1, smalls[i:i+1]), smalls[i : i+1]})
	}
	for i := range len(marks) {
		all = append(all, [2]string{key(6, marks[i:i+1]), marks[i : i+1]})
	}
	for i := range len(digits) {
		all = append(all, [2]string{key(7, digits[i:i+1]), digits[i : i+1]})
	}
	for _, name := range names {
		all = append(all, [2]string{key(8, name), name})
	}
	return all
}()

// missing says the document's words on what a table wants.
func missing(l []api.Rule) string {
	has := map[string]bool{}
	for _, x := range l {
		has[key(x.What, x.Left)] = true
	}
	for _, want := range wants {
		if !has[want[0]] {
			return want[1]
		}
	}
	return ""
}

// accepted says the document's words on a table.
func accepted(l []api.Rule) (line int, e api.Errno) {
	for i, x := range l {
		if !alone(x) {
			return x.Line, api.ErrTable
		}
		for _, y := range l[:i] {
			if clash(x, y) {
				return x.Line, api.ErrTable
			}
		}
	}
	if len(l) > 400 {
		return 0, api.ErrBound
	}
	if missing(l) != "" {
		return 0, api.ErrTable
	}
	return 0, api.OK
}
