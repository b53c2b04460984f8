package rules_test

import (
	"fmt"
	"regexp"
	"strings"

	"stylus/api"
)

// The document's words, signs' names and bounds are written out here, so that no test leans on the program's own.

var names = []string{"cap", "caps", "num", "let", "e+", "e-", "s+", "s-", "n+", "n-", "blk", "cont", "ind"}

const (
	smalls = "abcdefghijklmnopqrstuvwxyz"
	marks  = ".,;:!?'\"-()/"
	digits = "0123456789"
)

// kind is a row of the document's table: what a Left is, by a pattern, and whether there is a Prio.
type kind struct {
	what       int
	word, left string
	prio       bool
}

var kinds = []kind{
	{1, "any", "[a-z]{1,12}", true},
	{2, "begin", "[a-z]{1,12}", true},
	{3, "inner", "[a-z]{1,12}", true},
	{4, "end", "[a-z]{1,12}", true},
	{5, "word", "[a-z]{1,12}", true},
	{6, "mark", `[.,;:!?'"()/-]`, false},
	{7, "digit", "[0-9]", false},
	{8, "sign", `cap|caps|num|let|e\+|e-|s\+|s-|n\+|n-|blk|cont|ind`, false},
}

// whole is a pattern as one of a whole text.
func whole(pattern string) *regexp.Regexp { return regexp.MustCompile(`\A(?:` + pattern + `)\z`) }

// dotsOf is the digits of a cell's dots.
func dotsOf(c byte) string {
	s := ""
	for i := range 6 {
		if c>>i&1 == 1 {
			s += string("123456"[i])
		}
	}
	return s
}

// cellByDots has each cell but the blank.
var cellByDots = func() map[string]byte {
	all := map[string]byte{}
	for c := byte(1); c < 64; c++ {
		all[dotsOf(c)] = c
	}
	return all
}()

// textOf is the text of cells.
func textOf(cells string) string {
	var parts []string
	for i := range len(cells) {
		parts = append(parts, dotsOf(cells[i]))
	}
	return strings.Join(parts, "-")
}

// may says the document's words on a rule.
func may(x api.Rule) bool {
	if x.What < 1 || x.What > 8 || x.Prio < 0 || x.Prio > 99 || len(x.Cells) < 1 || len(x.Cells) > 4 {
		return false
	}
	for i := range len(x.Cells) {
		if x.Cells[i] < 1 || x.Cells[i] > 63 {
			return false
		}
	}
	k := kinds[x.What-1]
	return lefts[k.word].MatchString(x.Left) && (k.prio || x.Prio == 0)
}

var lefts = func() map[string]*regexp.Regexp {
	all := map[string]*regexp.Regexp{}
	for _, k := range kinds {
		all[k.word] = whole(k.left)
	}
	return all
}()

// lineOf is the line of a rule that may be.
func lineOf(x api.Rule) string {
	k := kinds[x.What-1]
	s := k.word + " " + x.Left + " " + textOf(x.Cells)
	if k.prio {
		s += fmt.Sprintf(" %d", x.Prio)
	}
	return s
}

// forms has, for each kind, what its line is, by a pattern with groups: Left, the cells' text, Prio.
var forms = func() []*regexp.Regexp {
	var dots []string
	for s := range cellByDots {
		dots = append(dots, s)
	}
	oneCell := "(?:" + strings.Join(dots, "|") + ")"
	var all []*regexp.Regexp
	for _, k := range kinds {
		prio := ""
		if k.prio {
			prio = " (0|[1-9][0-9]?)"
		}
		all = append(all, whole(k.word+" ("+k.left+") ("+oneCell+"(?:-"+oneCell+"){0,3})"+prio))
	}
	return all
}()

// ruleOf says the document's words on a line, but for Line.
func ruleOf(line string) (x api.Rule, ok bool) {
	for i, form := range forms {
		m := form.FindStringSubmatch(line)
		if m == nil {
			continue
		}
		x = api.Rule{What: kinds[i].what, Left: m[1]}
		for dots := range strings.SplitSeq(m[2], "-") {
			x.Cells += string([]byte{cellByDots[dots]})
		}
		if kinds[i].prio {
			fmt.Sscan(m[3], &x.Prio)
		}
		return x, true
	}
	return x, false
}

// parsed says the document's words on a table's text.
func parsed(text string) (l []api.Rule, line int, e api.Errno) {
	if len(text) > 65536 {
		return nil, 0, api.ErrBound
	}
	for i, s := range strings.Split(text, "\n") {
		if s == "" || s[0] == '#' {
			continue
		}
		x, ok := ruleOf(s)
		if !ok {
			return nil, i + 1, api.ErrTable
		}
		if len(l) == 400 {
			return nil, i + 1, api.ErrBound
		}
		x.Line = i + 1
		l = append(l, x)
	}
	return l, 0, api.OK
}

// rich is a table's text that has each What, each mark, digit and name, remarks, and lines of no bytes.
const rich = `# letters

any a 1 50
any and 12346 1
any abcdefghijkl 1-2-3-4 99
begin con 25 5
inner ea 2 20
end ness 56-234 3
word but 12 0
#
word x 123456-123456-123456-123456 10
## marks
mark . 256
mark , 2
mark ; 23
mark : 25
mark ! 235
mark ? 236
mark ' 3
mark " 6-236
mark - 36
mark ( 5-126
mark ) 5-345
mark / 456-34


digit 0 245
digit 1 1
digit 2 12
digit 3 14
digit 4 145
digit 5 15
digit 6 124
digit 7 1245
digit 8 125
digit 9 24
#any z 1 1
sign cap 6
sign caps 6-6
sign num 3456
sign let 56
sign e+ 46-2
sign e- 46-3
sign s+ 45-2
sign s- 45-3
sign n+ 4-126
sign n- 4-345
sign blk 4
sign cont 5
sign ind 2356
any a 1 50
`

// ordinary is one of just what is wanted, and some contractions.
func ordinary() string {
	s := ""
	for i := range len(smalls) {
		s += fmt.Sprintf("any %c %s 50\n", smalls[i], dotsOf(byte(i+1)))
	}
	for i := range len(marks) {
		s += fmt.Sprintf("mark %c 456-%s\n", marks[i], dotsOf(byte(i+1)))
	}
	for i := range len(digits) {
		s += fmt.Sprintf("digit %c %s\n", digits[i], dotsOf(byte(i+1)))
	}
	for i, name := range names {
		s += fmt.Sprintf("sign %s 56-%s\n", name, dotsOf(byte(i+1)))
	}
	return s + "any st 34 10\nany for 123456 1\nend tion 56-1345 3\nword knowledge 13 0\n"
}
