package back_test

import (
	"regexp"
	"slices"
	"strconv"
	"strings"
	"testing"

	"stylus/api"
	"stylus/back"
	"stylus/flat"
	"stylus/trial"
	"stylus/trie"
)

// The document's words are said anew here: which row holds, and how letters are taken, by patterns over which sorts of rules stand ahead; what is open by its kinds, closed one by one until it is as the words ask. So no test leans on the program's own.

// asked is a table that is ready, beside its rules, those of each row by their cells, and what is read of words' cells.
type asked struct {
	*testing.T
	*trie.Trie
	rules []api.Rule
	rows  [4]map[string]api.Rule
	words map[string]string
}

// ready makes a table ready.
func ready(t *testing.T, l []api.Rule) asked {
	a := asked{T: t, Trie: trial.Ready(l), rules: slices.Clone(l), words: map[string]string{}}
	for row := range a.rows {
		a.rows[row] = map[string]api.Rule{}
		for _, x := range trial.OfRow(l, row) {
			a.rows[row][x.Cells] = x
		}
	}
	for _, x := range l {
		if x.What == 5 {
			a.words[x.Cells] = x.Left
			a.words[a.cells("cap")+x.Cells] = cased(x.Left, "c")
			a.words[a.cells("caps")+x.Cells] = cased(x.Left, "C")
		}
	}
	return a
}

// cells is those of rules by their Lefts.
func (a asked) cells(lefts string) string { return trial.CellsOf(a.rules, lefts) }

// sortOf is of which sort a rule is: of letters a, a mark's a point, a digit's 1, of signs c (cap), C (caps), n (num), l (let), + of an opening and - of a closing; ! of what can't be read.
func sortOf(x api.Rule) string {
	switch {
	case x.What == 6:
		return "."
	case x.What == 7:
		return "1"
	case x.What != 8:
		return "a"
	}
	for name, sort := range map[string]string{"cap": "c", "caps": "C", "num": "n", "let": "l", "blk": "!", "cont": "!", "ind": "!"} {
		if x.Left == name {
			return sort
		}
	}
	return x.Left[1:]
}

// What stands ahead.
var (
	inRun    = regexp.MustCompile(`a[cC]*\z`)
	inNumber = regexp.MustCompile(`n1*\z`)
	capital  = regexp.MustCompile(`c\z`)
	capitals = regexp.MustCompile(`Ca*\z`)
)

// row is the one that holds behind rules of those sorts.
func row(sorts string) int {
	switch {
	case inRun.MatchString(sorts):
		return 2
	case inNumber.MatchString(sorts):
		return 3
	}
	return 1
}

// cased is letters as they are taken behind rules of those sorts.
func cased(left, sorts string) string {
	switch {
	case capital.MatchString(sorts):
		return strings.ToUpper(left[:1]) + left[1:]
	case capitals.MatchString(sorts):
		return strings.ToUpper(left)
	}
	return left
}

// answer is one that is wanted: tokens, told, or the place and the error.
type answer struct {
	told string
	at   int
	e    api.Errno
}

// chunk says the words on a chunk's cells.
func (a asked) chunk(cells string) answer {
	if word, ok := a.words[cells]; ok {
		return answer{told: word}
	}
	told, sorts := "", ""
	for at := 0; at < len(cells); {
		var x api.Rule
		for size := range min(4, len(cells)-at) + 1 {
			if y, ok := a.rows[row(sorts)][cells[at:at+size]]; ok {
				x = y
			}
		}
		switch sort := sortOf(x); {
		case x.What == 0 || sort == "!":
			return answer{at: at, e: api.ErrForm}
		case sort == "a":
			told += cased(x.Left, sorts)
		case sort == "." || sort == "1":
			told += x.Left
		case sort == "+":
			told += "<" + x.Left[:1]
		case sort == "-":
			told += ">" + x.Left[:1]
		}
		sorts += sortOf(x)
		at += len(x.Cells)
	}
	return answer{told: told}
}

// text says them on a text's.
func (a asked) text(cells string) answer {
	var all []string
	at := 0
	for _, part := range strings.Split(cells, "\x00") {
		x := a.chunk(part)
		if x.e != api.OK {
			return answer{at: at + x.at, e: x.e}
		}
		all = append(all, x.told)
		at += len(part) + 1
	}
	return answer{told: strings.Join(all, " ")}
}

// begun is the kinds that are opened by flows, by their codes.
var begun = map[int]string{1: "1", 2: "2", 3: "3", 4: "p", 5: "li", 6: "i", 7: "trc", 8: "rc", 9: "c", 10: "k"}

// may says the words on whether a flow may stand where those kinds are open.
func may(f api.Flow, open string) bool {
	lists := strings.Count(open, "l")
	switch f.Code {
	case 5:
		return f.Depth > 0 && f.Depth <= lists+1
	case 6:
		return f.Depth > 0 && f.Depth <= lists
	case 8, 9:
		return f.Depth == 0 && strings.HasPrefix(open, "t")
	case 10:
		return f.Depth == 0 && f.Cells == ""
	}
	return f.Depth == 0 && begun[f.Code] != ""
}

// enough says them on whether no more of those kinds is closed by a flow.
func enough(f api.Flow, open string) bool {
	lists := strings.Count(open, "l")
	switch {
	case f.Code == 5 && f.Depth > 1:
		return lists == f.Depth-1 && strings.HasSuffix(open, "i")
	case f.Code == 6:
		return lists == f.Depth && strings.HasSuffix(open, "l")
	case f.Code == 8:
		return strings.HasSuffix(open, "t")
	case f.Code == 9:
		return strings.HasSuffix(open, "r")
	}
	return open == ""
}

// flows says them on flows.
func (a asked) flows(l []api.Flow) answer {
	told, open := "", ""
	closeFor := func(f api.Flow) {
		for !enough(f, open) {
			last := len(open) - 1
			told, open = told+">"+open[last:], open[:last]
		}
	}
	for i, f := range l {
		text := a.text(f.Cells)
		if text.e != api.OK || !may(f, open) {
			return answer{at: i, e: api.ErrForm}
		}
		closeFor(f)
		for _, kind := range strings.Split(begun[f.Code], "") {
			told, open = told+"<"+kind, open+kind
		}
		told += text.told
	}
	closeFor(api.Flow{})
	if _, e := flat.Tree(trial.Toks(told)); e != api.OK {
		return answer{at: len(l), e: e}
	}
	return answer{told: told}
}

// flowsOf is flows by texts: each one's code, its depth behind a point, if it is not 0, and the Lefts of its cells.
func (a asked) flowsOf(texts ...string) []api.Flow {
	a.Helper()
	l := make([]api.Flow, len(texts))
	for i, s := range texts {
		head, lefts, _ := strings.Cut(s, " ")
		code, depth, deep := strings.Cut(head, ".")
		var e, f error
		l[i].Code, e = strconv.Atoi(code)
		if deep {
			l[i].Depth, f = strconv.Atoi(depth)
		}
		if e != nil || f != nil {
			a.Fatalf("%s is no flow", s)
		}
		l[i].Cells = a.cells(lefts)
	}
	return l
}

// shown is flows as a failure should print them.
func shown(l []api.Flow) string {
	s := ""
	for _, f := range l[:min(len(l), 15)] {
		s += strconv.Itoa(f.Code) + "." + strconv.Itoa(f.Depth) + " " + strconv.Quote(trial.Shown(f.Cells)) + "; "
	}
	return s
}

// same looks whether what was answered is what is wanted: tokens all of At 0, or none.
func (a asked) same(l []api.Tok, at int, e api.Errno, want answer, call, of string) {
	a.Helper()
	got := answer{trial.Told(l), at, e}
	placed := slices.ContainsFunc(l, func(x api.Tok) bool { return x.At != 0 })
	if got != want || placed || e != api.OK && l != nil {
		a.Errorf("%s(%s) of %d rules: %v, %d, %d, want %q, %d, %d", call, of, len(a.rules), l, at, e, want.told, want.at, want.e)
	}
}

// asChunk asks for a chunk's cells what is wanted of them.
func (a asked) asChunk(cells string, want answer) {
	a.Helper()
	l, at, e := back.Chunk(a.Trie, cells)
	a.same(l, at, e, want, "Chunk", strconv.Quote(trial.Shown(cells)))
}

// asText does so for a text's.
func (a asked) asText(cells string, want answer) {
	a.Helper()
	l, at, e := back.Text(a.Trie, cells)
	a.same(l, at, e, want, "Text", strconv.Quote(trial.Shown(cells)))
}

// asFlows does so for flows, and answers their tokens.
func (a asked) asFlows(l []api.Flow, want answer) []api.Tok {
	a.Helper()
	out, at, e := back.Tokens(a.Trie, l)
	a.same(out, at, e, want, "Tokens", shown(l))
	return out
}

// says asks for cells, as a chunk's and as a text's, what the words say, and answers what of the latter.
func (a asked) says(cells string) answer {
	a.Helper()
	want := a.text(cells)
	a.asChunk(cells, a.chunk(cells))
	a.asText(cells, want)
	return want
}

// reads asks for cells, told by Lefts, whether they are read as that, by the words too.
func (a asked) reads(lefts, told string) {
	a.Helper()
	cells := a.cells(lefts)
	if !strings.Contains(cells, "\x00") {
		a.asChunk(cells, answer{told: told})
	}
	a.asText(cells, answer{told: told})
	a.says(cells)
}

// stops asks for cells, told by Lefts of which those behind a | can't be read, whether they are not, from there on, by the words too.
func (a asked) stops(lefts string) {
	a.Helper()
	ahead, rest, ok := strings.Cut(lefts, "|")
	if !ok {
		a.Fatalf("%s: no |", lefts)
	}
	a.stopsAt(a.cells(ahead)+a.cells(rest), len(a.cells(ahead)))
}

// stopsAt asks for cells whether they can't be read from a place on.
func (a asked) stopsAt(cells string, at int) {
	a.Helper()
	want := answer{at: at, e: api.ErrForm}
	if !strings.Contains(cells[:at], "\x00") {
		a.asChunk(cells, want)
	}
	if at >= len(cells) || cells[at] != 0 {
		a.asText(cells, want)
	}
	a.says(cells)
}

// nests asks for flows, told by texts, whether they are read as that, by the words too.
func (a asked) nests(told string, texts ...string) {
	a.Helper()
	l := a.flowsOf(texts...)
	a.asFlows(l, answer{told: told})
	a.asFlows(l, a.flows(l))
}

// refuses asks for flows whether they have an error at that number, by the words too.
func (a asked) refuses(at int, e api.Errno, texts ...string) {
	a.Helper()
	a.refusesAll(at, e, a.flowsOf(texts...))
}

// refusesAll does so for flows as they are.
func (a asked) refusesAll(at int, e api.Errno, l []api.Flow) {
	a.Helper()
	a.asFlows(l, answer{at: at, e: e})
	a.asFlows(l, a.flows(l))
}

// none asks nobody's table for nothing.
func (a asked) none(cells string, l []api.Flow) {
	a.Helper()
	want := answer{e: api.ErrArg}
	a.asChunk(cells, want)
	a.asText(cells, want)
	a.asFlows(l, want)
}
