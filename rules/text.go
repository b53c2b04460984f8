package rules

import (
	"iter"
	"strconv"
	"strings"

	"stylus/api"
	"stylus/cell"
)

// words has each What's word at its place. At 0 stands none, so that a line
// without a word is found there, at what is no What.
var words = [...]string{
	api.RuleAny:   "any",
	api.RuleBegin: "begin",
	api.RuleInner: "inner",
	api.RuleEnd:   "end",
	api.RuleWord:  "word",
	api.RuleMark:  "mark",
	api.RuleDigit: "digit",
	api.RuleSign:  "sign",
}

const (
	blank  = " "  // between what a line says
	end    = "\n" // of a line
	remark = "#"  // by which a line begins that says nothing
)

// Parse is the rules of a table's text; or its first fault, with the line.
func Parse(text string) (l []api.Rule, line int, e api.Errno) {
	if len(text) > api.MaxTable {
		return nil, 0, api.ErrBound
	}
	for number, said := range lines(text) {
		x, ok := ruleOf(said)
		switch {
		case !ok:
			return nil, number, api.ErrTable
		case len(l) == api.MaxRules:
			return nil, number, api.ErrBound
		}
		x.Line = number
		l = append(l, x)
	}
	return l, 0, api.OK
}

// lines goes over the lines of a text that say something, each with its number,
// from 1 on.
func lines(text string) iter.Seq2[int, string] {
	return func(yield func(int, string) bool) {
		number := 0
		for line := range strings.SplitSeq(text, end) {
			number++
			if line == "" || strings.HasPrefix(line, remark) {
				continue
			}
			if !yield(number, line) {
				return
			}
		}
	}
}

// ruleOf is the rule whose line that is; false, if it is none's. What can't be
// read is taken as nothing: the line that is told anew is another one then.
func ruleOf(line string) (x api.Rule, ok bool) {
	word, rest, _ := strings.Cut(line, blank)
	left, rest, _ := strings.Cut(rest, blank)
	dots, figures, _ := strings.Cut(rest, blank)
	x.What = whatOf(word)
	x.Left = strings.Clone(left)
	x.Cells, _, _ = cell.Parse(dots)
	x.Prio, _ = strconv.Atoi(figures)
	return x, May(x) && lineOf(x) == line
}

// whatOf is the What whose word that is; 0, if it is none's.
func whatOf(word string) int {
	for what, is := range words {
		if is == word {
			return what
		}
	}
	return 0
}

// lineOf is the line of a rule that may be.
func lineOf(x api.Rule) string {
	dots, _ := cell.Print(x.Cells) // no error: it may be
	parts := []string{words[x.What], x.Left, dots}
	if ofLetters(x.What) {
		parts = append(parts, strconv.Itoa(x.Prio))
	}
	return strings.Join(parts, blank)
}

// Print is the lines of rules; or the error of more than may be, or of one that
// may not be.
func Print(l ...api.Rule) (string, api.Errno) {
	if len(l) > api.MaxRules {
		return "", api.ErrBound
	}
	var text strings.Builder
	for _, x := range l {
		if !May(x) {
			return "", api.ErrArg
		}
		text.WriteString(lineOf(x) + end)
	}
	return text.String(), api.OK
}
