package chunk_test

import (
	"iter"
	"slices"
	"strings"
	"testing"

	"stylus/api"
	"stylus/chunk"
	"stylus/trial"
)

// chunks goes over all short ones of a few sorts of tokens each, and over pieces side by side. Some come more than once.
func chunks() iter.Seq[[]api.Tok] {
	return func(yield func([]api.Tok) bool) {
		for _, x := range []struct {
			toks string
			most int
		}{{"abAB", 5}, {"aAb1.<e", 4}, {"bB1,<e>e", 4}, {"bB.", 5}, {"aB12-<s>s<n", 3}, {"stST", 4}, {"andD", 4}, {"thTH", 4}, {"butT", 4}, {"ixtX", 4}, {"conN", 4}} {
			for l := range trial.Rows(trial.Toks(x.toks), x.most) {
				if !yield(l) {
					return
				}
			}
		}
		pieces := []string{"con", "THE", "And", "ness", "eA", "X", "1", ".", "<e", "but"}
		for l := range trial.Rows(pieces, 3) {
			if !yield(trial.Toks(strings.Join(l, ""))) {
				return
			}
		}
	}
}

// P12.5

// Neither tokens nor pieces that are handed in are changed, nor the room behind their ends, nor the table.
func TestHandedInStays(t *testing.T) {
	for _, table := range trial.Tables() {
		a := ready(t, table)
		for _, s := range []string{"", "b", "But", "BUT", "a1bB2.<e>e", "conTHEness", "a b", "<p"} {
			toks := append(trial.Toks(s), trial.Toks("xyz")...)
			given, size := slices.Clone(toks), len(toks)-3
			chunk.Check(given[:size])
			chunk.Word(a.Trie, given[:size])
			chunk.Spelled(a.Trie, given[:size])
			pieces, _ := chunk.Of(a.Trie, given[:size])
			if !slices.Equal(given, toks) {
				t.Errorf("%s: the tokens are others", s)
			}
			more := append(slices.Clone(pieces), api.Piece{Rule: 1, From: 2, Len: 3})
			all := slices.Clone(more)
			chunk.Cells(a.Trie, more[:len(pieces)])
			if !slices.Equal(more, all) {
				t.Errorf("%s: the pieces are others", s)
			}
		}
		if !slices.Equal(table, a.rules) || !slices.Equal(a.Rules(), a.rules) {
			t.Error("the rules are others")
		}
	}
}

// What is answered is the caller's: what he makes of it, or of the tokens, is not seen by the next call, nor in another answer.
func TestAnswersNewMemory(t *testing.T) {
	calls := []func(asked, []api.Tok) []api.Piece{
		func(a asked, l []api.Tok) []api.Piece { p, _ := chunk.Of(a.Trie, l); return p },
		func(a asked, l []api.Tok) []api.Piece { p, _ := chunk.Spelled(a.Trie, l); return p },
		func(a asked, l []api.Tok) []api.Piece { p, _ := chunk.Word(a.Trie, l); return p },
	}
	for _, table := range trial.Tables() {
		a := ready(t, table)
		for _, s := range []string{"a", "b", "But", "BUT", "a1bB2.<e>e", "conTHEness"} {
			for i, call := range calls {
				l := trial.Toks(s)
				want := [][]api.Piece{a.pieces(l), a.spelled(l), a.word(l)}[i]
				one, other := call(a, l), call(a, l)
				for j := range one {
					one[j] = api.Piece{Rule: -7, From: -8, Len: -9}
				}
				one = append(one[:0], api.Piece{Rule: -1})
				clear(one[:cap(one)])
				clear(l)
				if !slices.Equal(other, want) || !slices.Equal(call(a, trial.Toks(s)), want) {
					t.Errorf("%d of %s: %v, want %v", i, s, other, want)
				}
			}
		}
	}
}

// The same calls have the same answers, whatever was asked between, and of whichever table.
func TestEachTime(t *testing.T) {
	for range 3 {
		for _, table := range trial.Tables() {
			a := ready(t, table)
			for range 3 {
				for _, s := range []string{"b", "But", "a1bB2.<e>e", "conTHEness", ""} {
					a.of(trial.Toks(s))
					a.refused(trial.Toks(s + " "))
				}
			}
		}
	}
}

// P12.6

// Each token is taken by one piece, in order, be the chunk a word, spelled, or whichever.
func TestEachOnce(t *testing.T) {
	for _, table := range trial.Tables() {
		a := ready(t, table)
		for l := range chunks() {
			p, _ := chunk.Of(a.Trie, l)
			a.once(l, p)
			if p, ok := chunk.Word(a.Trie, l); ok {
				a.once(l, p)
				p, _ = chunk.Spelled(a.Trie, l)
				a.once(l, p)
			}
		}
	}
}

// once looks whether pieces take each token once, by rules that are right for it.
func (a asked) once(l []api.Tok, pieces []api.Piece) {
	a.Helper()
	sorts, text := told(l)
	at := 0
	for i, x := range pieces {
		if x.From != at || x.Len < 0 || x.Len > len(l)-at || x.Rule < 0 || x.Rule >= len(a.rules) {
			a.Fatalf("%s: piece %d of %v, at %d", trial.Told(l), i, pieces, at)
		}
		rule, last := a.rules[x.Rule], i == len(pieces)-1
		if !takes(rule, sorts[at:at+x.Len], text[at:at+x.Len]) || x.Len == 0 && last {
			a.Fatalf("%s: %s in %s, at %d", trial.Told(l), rule.Left, a.lefts(pieces), at)
		}
		at += x.Len
	}
	if at != len(l) {
		a.Fatalf("%s: %v ends at %d", trial.Told(l), pieces, at)
	}
}

// takes tells whether a rule is one by which such tokens are taken.
func takes(x api.Rule, sorts, text string) bool {
	switch {
	case sorts == "":
		return x.What == 8 && slices.Contains([]string{"cap", "caps", "num", "let"}, x.Left)
	case sorts == "+", sorts == "-":
		return x.What == 8 && x.Left == text+sorts
	case sorts == ".":
		return x.What == 6 && x.Left == text
	case sorts == "1":
		return x.What == 7 && x.Left == text
	}
	return x.What >= 1 && x.What <= 5 && x.Left == strings.ToLower(text) && runAhead.FindString(sorts) == sorts
}

// P12.7

// No two chunks have the same cells.
func TestToldApart(t *testing.T) {
	for _, table := range trial.Tables() {
		a := ready(t, table)
		by := map[string]string{}
		for l := range chunks() {
			p, _ := chunk.Of(a.Trie, l)
			cells, s := chunk.Cells(a.Trie, p), trial.Told(l)
			if other, ok := by[cells]; ok && other != s {
				t.Errorf("%d rules: %s and %s are both %q", len(table), s, other, cells)
			}
			by[cells] = s
		}
		if len(by) < 5000 {
			t.Errorf("%d chunks", len(by))
		}
	}
}

// A chunk has the same pieces wherever its tokens stand in the source.
func TestElsewhere(t *testing.T) {
	for _, table := range trial.Tables() {
		a := ready(t, table)
		for l := range trial.Rows(trial.Toks("abB1.<e"), 3) {
			for i := range l {
				l[i].At = -7*i*i + len(l)
			}
			a.of(l)
		}
	}
}

// The tables have chunks whose spelled cells are a word's, in each way, and ones where they are another chunk's, or there would be nothing to tell apart.
func TestTablesTellApart(t *testing.T) {
	guards, words, same := 0, 0, 0
	for _, table := range trial.Tables() {
		a := ready(t, table)
		by := map[string]string{}
		for l := range chunks() {
			spelled, pieces := a.spelled(l), a.pieces(l)
			switch {
			case a.word(l) != nil:
				words++
			case len(pieces) > len(spelled):
				guards++
			}
			cells, s := a.cells(pieces[len(pieces)-min(len(pieces), len(spelled)):]), trial.Told(l)
			if other, ok := by[cells]; ok && other != s {
				same++
			}
			by[cells] = s
		}
	}
	if guards < 100 || words < 300 || same < 20 {
		t.Errorf("%d are guarded, %d are words, %d would be the same but for what guards them", guards, words, same)
	}
}
