package trie_test

import (
	"slices"
	"testing"
	"unsafe"

	"stylus/api"
	"stylus/trial"
	"stylus/trie"
)

// checkAll asks a table for each of its rules, in each way.
func checkAll(t *testing.T, a asked) {
	t.Helper()
	a.T = t
	for _, x := range a.rules {
		for row := -1; row <= 4; row++ {
			a.match(x.Cells+"\x01", 0, row)
			a.match("\x01"+x.Cells, 1, row)
		}
		a.word(x.Cells)
		a.word(x.Cells + "\x01")
		a.find(x.What, x.Left)
		a.find(x.What, x.Left+"a")
		a.sign(x.Left)
	}
	if got := a.Rules(); !slices.Equal(got, a.rules) {
		t.Errorf("Rules: %v", got)
	}
}

// P10.5

// Neither rules that are handed in nor the room behind their end are changed.
func TestHandedInStays(t *testing.T) {
	all := slices.Concat(trial.Ordinary(), trial.Ordinary(), []api.Rule{{}, {What: 9}})
	most := len(trial.Ordinary())
	for _, n := range []int{0, 1, trial.PlainRules, most, most + 1, len(all)} {
		l := slices.Clone(all)
		if tr, _, e := trie.New(l[:n]); e == api.OK {
			checkAll(t, asked{t, tr, all[:n]})
		}
		if !slices.Equal(l, all) {
			t.Errorf("%d rules: %v", n, l)
		}
	}
}

// A list that is changed behind the call changes nothing.
func TestHandedInNotKept(t *testing.T) {
	for _, l := range tables() {
		a := ready(t, l)
		l[0], l[len(l)-1] = l[len(l)-1], l[0]
		checkAll(t, a)
		for i := range l {
			l[i].Cells, l[i].Left, l[i].Line = "\x3f", "zzz", -1
		}
		checkAll(t, a)
		clear(l)
		checkAll(t, a)
	}
}

// Nor do the bytes of which texts were made, when they become others.
func TestTextsNotKept(t *testing.T) {
	for _, l := range tables() {
		given, bytes := slices.Clone(l), [][]byte{}
		text := func(s string) string {
			b := []byte(s)
			bytes = append(bytes, b)
			return unsafe.String(&b[0], len(b))
		}
		for i, x := range given {
			given[i].Left, given[i].Cells = text(x.Left), text(x.Cells)
		}
		tr, _, _ := trie.New(given)
		for _, b := range bytes {
			clear(b)
		}
		checkAll(t, asked{t, tr, l})
	}
}

// What is answered is the caller's: what he makes of it is not seen by the next call.
func TestAnswersNewMemory(t *testing.T) {
	for _, l := range tables() {
		a := ready(t, l)
		one, other := a.Rules(), a.Rules()
		one[0].Cells, one[1].Left = "\x3f", "zzz"
		slices.Reverse(one)
		one = append(one[:1], api.Rule{})
		clear(one[:cap(one)])
		if !slices.Equal(other, l) {
			t.Errorf("Rules: %v", other)
		}
		checkAll(t, a)
	}
}

// Tables that are ready are apart, even those made of one list.
func TestTablesApart(t *testing.T) {
	var all []asked
	for _, l := range tables() {
		all = append(all, ready(t, l), ready(t, l), ready(t, trial.Orders(l)[0]))
	}
	for _, a := range all {
		clear(a.Rules())
		trie.New(a.rules[1:])
		for _, b := range all {
			checkAll(t, b)
		}
	}
}

// Each table has its own: what one has, another one need not have.
func TestOneWithoutOthers(t *testing.T) {
	ready(t, trial.Full())
	a := ready(t, trial.Table())
	for _, x := range trial.Full()[trial.PlainRules:] {
		if a.word(x.Cells) || a.find(x.What, x.Left) {
			t.Errorf("%v is there", x)
		}
		for row := 1; row <= 3; row++ {
			a.match(x.Cells, 0, row)
		}
	}
}

// P10.6

// checkReadBack asks that the cells of a row's rules are read back as these.
func checkReadBack(t *testing.T, tr *trie.Trie, all, l []api.Rule, row int) {
	t.Helper()
	cells, at := trial.Behind(l), 0
	for i, x := range l {
		rule, ok := tr.Match(cells, at, row)
		if !ok || all[rule] != x {
			t.Fatalf("row %d: %d of %v is read as %d, %v", row, i, l, rule, ok)
		}
		at += len(x.Cells)
	}
	if rule, ok := tr.Match(cells, at, row); ok || rule != 0 || at != len(cells) {
		t.Errorf("row %d: behind %v stands %d", row, l, rule)
	}
}

// All pairs of a row's rules.
func TestReadBack(t *testing.T) {
	for _, l := range tables() {
		tr := ready(t, l).Trie
		for row := 1; row <= 3; row++ {
			for some := range trial.Rows(trial.OfRow(l, row), 2) {
				checkReadBack(t, tr, l, some, row)
			}
		}
	}
}

// All threes, of some contractions, some letters, marks and signs.
func TestReadBackOfThree(t *testing.T) {
	l := trial.Ordinary()
	tr := ready(t, l).Trie
	for row := 1; row <= 3; row++ {
		for some := range trial.Rows(trial.OfRow(slices.Concat(l[:6], l[26:30], l[36:42], l[48:]), row), 3) {
			checkReadBack(t, tr, l, some, row)
		}
	}
}

// All rules of a row at once, in many orders, each order once and again.
func TestReadBackOfAll(t *testing.T) {
	for _, l := range tables() {
		tr := ready(t, l).Trie
		for row := 1; row <= 3; row++ {
			for _, some := range trial.Orders(trial.OfRow(l, row)) {
				checkReadBack(t, tr, l, some, row)
				checkReadBack(t, tr, l, slices.Repeat(some, 5), row)
			}
		}
	}
}

// P10.7

// Numbers are the places in the order in which the rules were told.
func TestFound(t *testing.T) {
	for _, l := range tables() {
		for _, other := range append(trial.Orders(l), l) {
			a := ready(t, other)
			for i, x := range other {
				rule, ok := a.Find(x.What, x.Left)
				a.same(rule, ok, i, true, "Find of %v", x)
				if x.What == 5 {
					rule, ok = a.Word(x.Cells)
					a.same(rule, ok, i, true, "Word of %v", x)
				}
				for row := 1; row <= 3; row++ {
					if trial.InRow(x, row) {
						rule, ok = a.Match(x.Cells, 0, row)
						a.same(rule, ok, i, true, "Match of %v, %d", x, row)
					}
				}
			}
			if !slices.Equal(a.Rules(), other) {
				t.Errorf("Rules: %v", a.Rules())
			}
		}
	}
}

// The same calls have the same answers, whatever was asked between.
func TestEachTime(t *testing.T) {
	a := ready(t, trial.Full())
	for range 5 {
		checkAll(t, a)
		checkAll(t, ready(t, trial.Full()))
		trie.New(nil)
		trie.New(a.rules[1:])
		trie.New(trial.Fill(a.rules, 401))
	}
}
