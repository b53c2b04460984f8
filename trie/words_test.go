package trie_test

import (
	"fmt"
	"math"
	"strings"
	"testing"

	"stylus/api"
	"stylus/trial"
	"stylus/trie"
)

// The document's words are said anew here, by going through all rules, so that no test leans on the program's own.

// only is the number of the one rule that is so, and true; else 0 and false.
func only(t *testing.T, l []api.Rule, is func(api.Rule) bool) (rule int, ok bool) {
	t.Helper()
	for i, x := range l {
		switch {
		case !is(x):
		case ok:
			t.Fatalf("two rules, %v and %v", l[rule], x)
		default:
			rule, ok = i, true
		}
	}
	return rule, ok
}

// stands tells whether a rule is the one of a row that stands at a place of cells.
func stands(x api.Rule, cells string, at, row int) bool {
	return trial.InRow(x, row) && at >= 0 && at < len(cells) && strings.HasPrefix(cells[at:], x.Cells)
}

// tables is accepted ones: of what is wanted, of some contractions too, of as many rules as may be.
func tables() [][]api.Rule {
	return [][]api.Rule{trial.Table(), trial.Ordinary(), trial.Full()}
}

// farNumbers is numbers of no row, and places in no cells.
var farNumbers = []int{math.MinInt, math.MinInt + 1, -1 << 32, -256, -3, -2, -1, 0, 4, 5, 6, 7, 255, 257, 1 << 32, 1<<32 + 1, math.MaxInt - 1, math.MaxInt}

// asked is a table that is ready, beside the rules that it should have.
type asked struct {
	*testing.T
	*trie.Trie
	rules []api.Rule
}

// ready makes a table ready, which must be accepted.
func ready(t *testing.T, l []api.Rule) asked {
	t.Helper()
	tr, line, e := trie.New(l)
	if tr == nil || line != 0 || e != api.OK {
		t.Fatalf("New of %d rules: %d, %d", len(l), line, e)
	}
	return asked{t, tr, append([]api.Rule{}, l...)}
}

// same asks for a number and true, or for 0 and false.
func (a asked) same(rule int, ok bool, want int, wantOK bool, call string, with ...any) {
	a.Helper()
	if rule != want || ok != wantOK {
		a.Errorf("%s of %d rules: %d, %v, want %d, %v", fmt.Sprintf(call, with...), len(a.rules), rule, ok, want, wantOK)
	}
}

// match asks for what the words say, and answers it.
func (a asked) match(cells string, at, row int) (x api.Rule, ok bool) {
	a.Helper()
	want, wantOK := only(a.T, a.rules, func(x api.Rule) bool { return stands(x, cells, at, row) })
	rule, ok := a.Match(cells, at, row)
	a.same(rule, ok, want, wantOK, "Match(%q, %d, %d)", trial.Shown(cells), at, row)
	if !wantOK {
		return api.Rule{}, false
	}
	return a.rules[want], true
}

// word likewise.
func (a asked) word(cells string) bool {
	a.Helper()
	want, wantOK := only(a.T, a.rules, func(x api.Rule) bool { return x.What == 5 && x.Cells == cells })
	rule, ok := a.Word(cells)
	a.same(rule, ok, want, wantOK, "Word(%q)", trial.Shown(cells))
	return wantOK
}

// find likewise.
func (a asked) find(what int, left string) bool {
	a.Helper()
	want, wantOK := only(a.T, a.rules, func(x api.Rule) bool { return x.What == what && x.Left == left })
	rule, ok := a.Find(what, left)
	a.same(rule, ok, want, wantOK, "Find(%d, %q)", what, trial.Shown(left))
	return wantOK
}

// sign likewise.
func (a asked) sign(name string) bool {
	a.Helper()
	want, wantOK := only(a.T, a.rules, func(x api.Rule) bool { return x.What == 8 && x.Left == name })
	cells := ""
	if wantOK {
		cells = a.rules[want].Cells
	}
	if got := a.Sign(name); got != cells {
		a.Errorf("Sign(%q): %q, want %q", trial.Shown(name), got, cells)
	}
	return wantOK
}
