package check_test

import (
	"fmt"
	"regexp"
	"slices"
	"strings"
	"testing"

	"stylus/api"
	"stylus/rules"
)

// The document's words are written out here, so that no test leans on the program's own.

const (
	smalls = "abcdefghijklmnopqrstuvwxyz"
	marks  = ".,;:!?'\"-()/"
	digits = "0123456789"
)

var names = []string{"cap", "caps", "num", "let", "e+", "e-", "s+", "s-", "n+", "n-", "blk", "cont", "ind"}

// inRow has the Whats of each row's rules.
var inRow = map[int][]int{
	1: {1, 2, 6, 8},
	2: {1, 3, 4, 6, 8},
	3: {7, 6, 8},
}

// in says the document's words on a rule and a row.
func in(x api.Rule, row int) bool { return slices.Contains(inRow[row], x.What) }

// tooLong is the lines of rules that have a cell too many to stand alone.
var tooLong = regexp.MustCompile(`\A(?:(?:any .|digit .|sign blk|sign cont|sign ind) \d+-|(?:sign num|sign let) \d+-\d+-)`)

// alone says the document's words on a rule by itself.
func alone(x api.Rule) bool {
	line, e := rules.Print(x)
	return e == api.OK && !tooLong.MatchString(line)
}

// begins tells whether some cells begin others, or are the same.
func begins(a, b string) bool {
	for i := range len(a) {
		if i == len(b) || a[i] != b[i] {
			return false
		}
	}
	return true
}

// somewhere tells whether some cells stand somewhere in others.
func somewhere(a, b string) bool {
	for i := range len(b) + 1 {
		if begins(a, b[i:]) {
			return true
		}
	}
	return false
}

// clash says the document's words on two rules.
func clash(x, y api.Rule) bool { return oneWay(x, y) || oneWay(y, x) }

func oneWay(x, y api.Rule) bool {
	switch {
	case x.What == y.What && x.Left == y.Left:
		return true
	case x.What == 5 && y.What == 5 && x.Cells == y.Cells:
		return true
	case x.What == 8 && slices.Contains([]string{"blk", "cont", "ind"}, x.Left) && somewhere(x.Cells, y.Cells):
		return true
	case x.What == 8 && y.What == 5 && begins(x.Cells, y.Cells):
		return true
	}
	for row := 1; row <= 3; row++ {
		if in(x, row) && in(y, row) && begins(x.Cells, y.Cells) {
			return true
		}
	}
	return false
}

// key tells what a rule is about.
func key(what int, left string) string { return fmt.Sprint(what, " ", left) }

// wants has the keys of what a table wants, in the document's order, each with the Left.
var wants = func() (all [][2]string) {
	for i := range len(smalls) {
		all = append(all, [2]string{key(1, smalls[i:i+1]), smalls[i : i+1]})
	}
	for i := range len(marks) {
		all = append(all, [2]string{key(6, marks[i:i+1]), marks[i : i+1]})
	}
	for i := range len(digits) {
		all = append(all, [2]string{key(7, digits[i:i+1]), digits[i : i+1]})
	}
	for _, name := range names {
		all = append(all, [2]string{key(8, name), name})
	}
	return all
}()

// missing says the document's words on what a table wants.
func missing(l []api.Rule) string {
	has := map[string]bool{}
	for _, x := range l {
		has[key(x.What, x.Left)] = true
	}
	for _, want := range wants {
		if !has[want[0]] {
			return want[1]
		}
	}
	return ""
}

// accepted says the document's words on a table.
func accepted(l []api.Rule) (line int, e api.Errno) {
	for i, x := range l {
		if !alone(x) {
			return x.Line, api.ErrTable
		}
		for _, y := range l[:i] {
			if clash(x, y) {
				return x.Line, api.ErrTable
			}
		}
	}
	if len(l) > 400 {
		return 0, api.ErrBound
	}
	if missing(l) != "" {
		return 0, api.ErrTable
	}
	return 0, api.OK
}

// plain is a table's text that has just what is wanted: 61 lines.
const plain = `any a 1 50
any b 12 50
any c 14 50
any d 145 50
any e 15 50
any f 124 50
any g 1245 50
any h 125 50
any i 24 50
any j 245 50
any k 13 50
any l 123 50
any m 134 50
any n 1345 50
any o 135 50
any p 1234 50
any q 12345 50
any r 1235 50
any s 234 50
any t 2345 50
any u 136 50
any v 1236 50
any w 2456 50
any x 1346 50
any y 13456 50
any z 1356 50
mark . 256
mark , 2
mark ; 23
mark : 25
mark ! 235
mark ? 236
mark ' 3
mark " 5-236
mark - 36
mark ( 5-126
mark ) 5-345
mark / 5-34
digit 0 245
digit 1 1
digit 2 12
digit 3 14
digit 4 145
digit 5 15
digit 6 124
digit 7 1245
digit 8 125
digit 9 24
sign cap 6
sign caps 45-6
sign num 3456
sign let 56-56
sign e+ 46-1
sign e- 46-3
sign s+ 45-1
sign s- 45-3
sign n+ 5-1
sign n- 5-3
sign blk 4
sign cont 456
sign ind 2356
`

// wanted is how many rules those are.
const wanted = 61

// more is lines that go with them.
const more = `any and 12346 1
any st 34 10
any for 123456 0
any tion 56-1345-3 4
any th 16 20
any the 26-1-1-1 20
any with 26-1-2 20
begin con 46-14 5
begin ab 56-1 5
begin a 56-12 5
begin an 46-2 99
inner con 46-14 5
inner a 46-2 20
inner ea 156 20
end ness 56-1234 3
end ea 56-12 3
end n 56-1 3
word but 12 0
word and 14 0
word a 16 0
word b 12-12 9
word knowledge 13 0
`

// parse is the rules of lines.
func parse(t *testing.T, lines ...string) []api.Rule {
	t.Helper()
	l, line, e := rules.Parse(strings.Join(lines, "\n"))
	if e != api.OK {
		t.Fatalf("Parse: line %d, %d", line, e)
	}
	return l
}

// table is what is wanted, and those lines.
func table(t *testing.T, lines ...string) []api.Rule {
	t.Helper()
	return parse(t, plain+strings.Join(lines, "\n"))
}

// ordinary is what is wanted, and some contractions.
func ordinary(t *testing.T) []api.Rule {
	t.Helper()
	return table(t, more)
}

// fill has rules behind others until there are n of them; they clash with none of an ordinary table.
func fill(l []api.Rule, n int) []api.Rule {
	l = slices.Clone(l)
	for i := len(l); i < n; i++ {
		left := string([]byte{'q', smalls[i/26%26], smalls[i%26]})
		cells := string([]byte{0x33, byte(0x10 + i%16), byte(0x10 + i/16)})
		l = append(l, api.Rule{What: 1 + i%5, Left: left, Cells: cells, Prio: i % 100, Line: i + 1})
	}
	return l
}

// rich is as many rules as may be.
func rich(t *testing.T) []api.Rule {
	t.Helper()
	return fill(ordinary(t), 400)
}
