package chunk_test

import (
	"regexp"
	"slices"
	"strings"
	"testing"

	"stylus/api"
	"stylus/chunk"
	"stylus/trial"
	"stylus/trie"
)

// The document's words are said anew here, by patterns over what sort each token is of, so that no test leans on the program's own.

const (
	smalls   = "abcdefghijklmnopqrstuvwxyz"
	capitals = "ABCDEFGHIJKLMNOPQRSTUVWXYZ"
	digits   = "0123456789"
	marks    = ".,;:!?'\"-()/"
)

// sortOf is of which sort a token is: a small letter's a, a capital's A, a digit's 1, a mark's a point, + of an opening and - of a closing; ? of what stands in no chunk.
func sortOf(x api.Tok) byte {
	for members, sort := range map[string]byte{smalls: 'a', capitals: 'A', digits: '1', marks: '.'} {
		if x.Kind == 1 && strings.IndexByte(members, x.Ch) >= 0 {
			return sort
		}
	}
	switch {
	case strings.IndexByte("esn", x.Ch) < 0:
		return '?'
	case x.Kind == 2:
		return '+'
	case x.Kind == 3:
		return '-'
	}
	return '?'
}

var (
	oneChunk = regexp.MustCompile(`\A[aA1.+-]*\z`)
	lower    = regexp.MustCompile(`\Aa+\z`)
	first    = regexp.MustCompile(`\AAa*\z`)
	all      = regexp.MustCompile(`\AAA+\z`)
	runAhead = regexp.MustCompile(`\A[aA]+`)
	ahead    = regexp.MustCompile(`\A[aA]a*`) // a letter, and the small ones behind it
)

// told is tokens as two texts, of their sorts and of their bytes.
func told(l []api.Tok) (sorts, text string) {
	for _, x := range l {
		sorts += string([]byte{sortOf(x)})
		text += string([]byte{x.Ch})
	}
	return sorts, text
}

// place is one of a run, and how many letters may be taken there at most.
type place struct {
	run      string
	at, most int
}

// asked is a table that is ready, beside its rules, and beside what the words said of places.
type asked struct {
	*testing.T
	*trie.Trie
	rules []api.Rule
	said  map[place]int
}

// ready makes a table ready.
func ready(t *testing.T, l []api.Rule) asked {
	return asked{t, trial.Ready(l), slices.Clone(l), map[place]int{}}
}

// number is the number of the rule of that What and Left; below 0, if there is none.
func (a asked) number(what int, left string) int {
	return slices.IndexFunc(a.rules, func(x api.Rule) bool { return x.What == what && x.Left == left })
}

// sign is the piece of a sign that takes no token.
func (a asked) sign(name string, at int) api.Piece {
	return api.Piece{Rule: a.number(8, name), From: at}
}

// best is the best rule at a place of a run.
func (a asked) best(p place) int {
	rule, ok := a.said[p]
	if !ok {
		rule, ok = trial.First(a.rules, p.run, p.at, p.most)
		if !ok {
			a.Fatalf("no rule for %v", p)
		}
		a.said[p] = rule
	}
	return rule
}

// word says the words on a chunk that is a word, and else has no pieces.
func (a asked) word(l []api.Tok) []api.Piece {
	sorts, text := told(l)
	rule := a.number(5, strings.ToLower(text))
	x := api.Piece{Rule: rule, Len: len(l)}
	switch {
	case rule < 0:
	case lower.MatchString(sorts):
		return []api.Piece{x}
	case first.MatchString(sorts):
		return []api.Piece{a.sign("cap", 0), x}
	case all.MatchString(sorts):
		return []api.Piece{a.sign("caps", 0), x}
	}
	return nil
}

// spelled says them on a chunk that is spelled.
func (a asked) spelled(l []api.Tok) (out []api.Piece) {
	sorts, text := told(l)
	for i := 0; i < len(l); i++ {
		digit := i > 0 && sorts[i-1] == '1'
		switch c := text[i : i+1]; sorts[i] {
		case '+', '-':
			out = append(out, api.Piece{Rule: a.number(8, c+sorts[i:i+1]), From: i, Len: 1})
		case '.':
			out = append(out, api.Piece{Rule: a.number(6, c), From: i, Len: 1})
		case '1':
			if !digit {
				out = append(out, a.sign("num", i))
			}
			out = append(out, api.Piece{Rule: a.number(7, c), From: i, Len: 1})
		default:
			if digit {
				out = append(out, a.sign("let", i))
			}
			size := len(runAhead.FindString(sorts[i:]))
			out = append(out, a.run(sorts[i:i+size], strings.ToLower(text[i:i+size]), i)...)
			i += size - 1
		}
	}
	return out
}

// run says them on a run, which begins at a token.
func (a asked) run(sorts, low string, from int) (out []api.Piece) {
	caps := false
	for at := 0; at < len(low); {
		most := len(ahead.FindString(sorts[at:]))
		switch {
		case caps:
			most = len(low) - at
		case all.MatchString(sorts[at:]):
			out = append(out, a.sign("caps", from+at))
			caps, most = true, len(low)-at
		case sorts[at] == 'A':
			out = append(out, a.sign("cap", from+at))
		}
		rule := a.best(place{low, at, most})
		size := len(a.rules[rule].Left)
		out = append(out, api.Piece{Rule: rule, From: from + at, Len: size})
		at += size
	}
	return out
}

// cells is the pieces' cells.
func (a asked) cells(l []api.Piece) string {
	s := ""
	for _, x := range l {
		s += a.rules[x.Rule].Cells
	}
	return s
}

// pieces says the words on a chunk.
func (a asked) pieces(l []api.Tok) []api.Piece {
	if word := a.word(l); word != nil {
		return word
	}
	out := a.spelled(l)
	cells := a.cells(out)
	for _, name := range []string{"cap", "caps"} {
		sign := a.rules[a.number(8, name)].Cells
		if strings.HasPrefix(cells, sign) {
			cells = cells[len(sign):]
			break
		}
	}
	if slices.ContainsFunc(a.rules, func(x api.Rule) bool { return x.What == 5 && x.Cells == cells }) {
		return slices.Concat([]api.Piece{a.sign("let", 0)}, out)
	}
	return out
}

// lefts is the pieces' Lefts.
func (a asked) lefts(l []api.Piece) string {
	var out []string
	for _, x := range l {
		out = append(out, a.rules[x.Rule].Left)
	}
	return strings.Join(out, " ")
}

// same looks whether pieces are those that are wanted.
func (a asked) same(got, want []api.Piece, l []api.Tok, call string) {
	a.Helper()
	if !slices.Equal(got, want) || len(want) == 0 && got != nil {
		a.Errorf("%s(%s) of %d rules: %v, want %v, which is %s", call, trial.Shown(trial.Told(l)), len(a.rules), got, want, a.lefts(want))
	}
}

// of asks all that can be asked of a chunk for what the words say, and answers its pieces.
func (a asked) of(l []api.Tok) []api.Piece {
	a.Helper()
	if e := chunk.Check(l); e != api.OK {
		a.Errorf("Check(%s): %d", trial.Shown(trial.Told(l)), e)
	}
	a.asWord(l)
	a.asSpelled(l)
	got, e := chunk.Of(a.Trie, l)
	want := a.pieces(l)
	a.same(got, want, l, "Of")
	if cells := chunk.Cells(a.Trie, want); e != api.OK || cells != a.cells(want) {
		a.Errorf("Of(%s): %d, Cells: %q", trial.Shown(trial.Told(l)), e, trial.Shown(cells))
	}
	return want
}

// asWord asks for a chunk as a word.
func (a asked) asWord(l []api.Tok) []api.Piece {
	a.Helper()
	got, ok := chunk.Word(a.Trie, l)
	want := a.word(l)
	a.same(got, want, l, "Word")
	if ok != (want != nil) {
		a.Errorf("Word(%s): %v", trial.Shown(trial.Told(l)), ok)
	}
	return want
}

// asSpelled asks for a chunk as one that is spelled.
func (a asked) asSpelled(l []api.Tok) []api.Piece {
	a.Helper()
	got, e := chunk.Spelled(a.Trie, l)
	want := a.spelled(l)
	a.same(got, want, l, "Spelled")
	if e != api.OK {
		a.Errorf("Spelled(%s): %d", trial.Shown(trial.Told(l)), e)
	}
	return want
}

// lists asks of chunks told as texts, each with the Lefts of its pieces.
func (a asked) lists(wants map[string]string) {
	a.Helper()
	for s, want := range wants {
		if got := a.lefts(a.of(trial.Toks(s))); got != want {
			a.Errorf("%s: %s, want %s", s, got, want)
		}
	}
}

// refused asks for nothing, of each function, and for the error.
func (a asked) refused(l []api.Tok) {
	a.Helper()
	if p, ok := chunk.Word(a.Trie, l); p != nil || ok {
		a.Errorf("Word(%s): %v, %v", trial.Shown(trial.Told(l)), p, ok)
	}
	if p, e := chunk.Spelled(a.Trie, l); p != nil || e != api.ErrArg {
		a.Errorf("Spelled(%s): %v, %d", trial.Shown(trial.Told(l)), p, e)
	}
	if p, e := chunk.Of(a.Trie, l); p != nil || e != api.ErrArg {
		a.Errorf("Of(%s): %v, %d", trial.Shown(trial.Told(l)), p, e)
	}
}
