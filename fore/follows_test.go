package fore_test

import (
	"slices"
	"strings"
	"testing"

	"stylus/api"
	"stylus/fore"
	"stylus/trial"
)

// The words hold on all short texts, and on all trees' flows.
func TestTexts(t *testing.T) {
	for _, table := range trial.Tables() {
		a := ready(t, table)
		for l := range trial.TextToks() {
			a.says(l)
		}
	}
}

func TestFlows(t *testing.T) {
	rows := slices.Collect(trial.Flats())
	for _, table := range trial.Tables() {
		a := ready(t, table)
		for _, l := range rows {
			a.has(l)
		}
	}
}

// P13.3

// Neither tokens that are handed in are changed, nor the room behind their ends, nor the table.
func TestHandedInStays(t *testing.T) {
	for _, table := range trial.Tables() {
		a := ready(t, table)
		for _, s := range []string{"", "b", " but  b1<ex >e ", "a<p", "<pa>p", "<l<ib<l<i>i>l>i>l<k>k", "<t<r<cA>c<c1>c>r>t", "<pa >p", "<p"} {
			l := append(trial.Toks(s), trial.Toks("x yz>p")...)
			given, size := slices.Clone(l), len(l)-5
			fore.Text(a.Trie, given[:size])
			fore.Of(a.Trie, given[:size])
			if !slices.Equal(given, l) {
				t.Errorf("%s: the tokens are others", s)
			}
		}
		if !slices.Equal(table, a.rules) || !slices.Equal(a.Rules(), a.rules) {
			t.Error("the rules are others")
		}
	}
}

// What is answered is the caller's: what he makes of it, or of the tokens, is not seen by the next call, nor in another answer, nor in another flow of it.
func TestAnswersNewMemory(t *testing.T) {
	for _, table := range trial.Tables() {
		a := ready(t, table)
		for _, s := range []string{"a", " ", "but b1<ex >e", "AND  and"} {
			l := trial.Toks(s)
			_, want := a.text(l)
			_, one, _ := fore.Text(a.Trie, l)
			_, other, _ := fore.Text(a.Trie, l)
			spoil(one)
			clear(l)
			if !slices.Equal(other, want) {
				t.Errorf("%s: %v, want %v", s, other, want)
			}
			a.says(trial.Toks(s))
		}
		for _, s := range []string{"{p but b}{h1 A}{k}", "{l{i a{l{i B 1}}}{i{e x}}}", "{t{r{c a}{c b}}{r{c}{c but}}}"} {
			l := trial.FlatOf(s)
			want := a.flows(l)
			for i := range want {
				one, _ := fore.Of(a.Trie, l)
				other, _ := fore.Of(a.Trie, l)
				spoil(one[i].At)
				one[i].At = want[i].At
				if !slices.EqualFunc(one, want, same) || !slices.EqualFunc(other, want, same) {
					t.Errorf("%s: the At of flow %d is another one's", s, i)
				}
				clear(one[:cap(one)])
				if !slices.EqualFunc(other, want, same) {
					t.Errorf("%s: the flows are another answer's", s)
				}
			}
			clear(l)
			a.has(trial.FlatOf(s))
		}
	}
}

// spoil makes others of a list's entries, and of what is in the room behind its end.
func spoil(l []int) {
	for i := range l {
		l[i] = -7
	}
	l = append(l[:0], -8)
	clear(l[:cap(l)])
}

// The same calls have the same answers, whatever was asked between, and of whichever table.
func TestEachTime(t *testing.T) {
	for range 3 {
		for _, table := range trial.Tables() {
			a := ready(t, table)
			for range 3 {
				for _, s := range []string{"b", " But  a1b", "<e b >e", ""} {
					a.says(trial.Toks(s))
					a.refused(trial.Toks(s + "\n"))
				}
				for _, s := range []string{"{p but b}{k}", "{l{i a{l{i B}}}{i}}", ""} {
					a.has(trial.FlatOf(s))
					a.refusedOf(trial.Toks("<p"), api.ErrForm)
				}
			}
		}
	}
}

// P13.4

// Places never fall within a flow, and lie within its text; texts stand one behind the other; each character stands in one.
func TestInOrder(t *testing.T) {
	rows := slices.Collect(trial.Flats())
	for _, table := range trial.Tables() {
		a := ready(t, table)
		for _, l := range rows {
			f, e := fore.Of(a.Trie, l)
			if e != api.OK {
				t.Fatalf("%s: %d", trial.Told(l), e)
			}
			a.inOrder(l, f)
		}
	}
}

// inOrder looks whether flows are so.
func (a asked) inOrder(l []api.Tok, flows []api.Flow) {
	a.Helper()
	last := 0 // where the text ahead ends
	for i, f := range flows {
		if f.From <= last || f.To < f.From || f.To > len(l) || !slices.IsSorted(f.At) || len(f.At) != len(f.Cells) {
			a.Fatalf("%s: flow %d of %v", trial.Told(l), i, flows)
		}
		for _, at := range f.At {
			if at < f.From || at >= f.To {
				a.Errorf("%s: %d is not in the text of flow %d of %v", trial.Told(l), at, i, flows)
			}
		}
		a.noChar(l[last:f.From])
		last = f.To
	}
	a.noChar(l[last:])
}

// noChar looks whether no character is among some tokens, which are in no text.
func (a asked) noChar(l []api.Tok) {
	a.Helper()
	if slices.ContainsFunc(l, func(x api.Tok) bool { return x.Kind == 1 }) {
		a.Errorf("%s is in no text", trial.Told(l))
	}
}

// As many blanks as spaces stand in a text, each at its space's place.
func TestBlanks(t *testing.T) {
	for _, table := range trial.Tables() {
		a := ready(t, table)
		for l := range trial.TextToks() {
			cells, at, _ := fore.Text(a.Trie, l)
			var blanks, spaces []int
			for i := range len(cells) {
				if cells[i] == api.Blank {
					blanks = append(blanks, at[i])
				}
			}
			for i, x := range l {
				if isSpace(x) {
					spaces = append(spaces, i)
				}
			}
			if !slices.Equal(blanks, spaces) {
				t.Errorf("%s: blanks of %v, spaces at %v", trial.Told(l), blanks, spaces)
			}
		}
	}
}

// Each token of a text has a cell that comes from it, or is a letter that is taken with others.
func TestEachToken(t *testing.T) {
	for _, table := range trial.Tables() {
		a := ready(t, table)
		for l := range trial.TextToks() {
			_, at, _ := fore.Text(a.Trie, l)
			for i, x := range l {
				letter := x.Kind == 1 && strings.Contains("abcdefghijklmnopqrstuvwxyz", strings.ToLower(string([]byte{x.Ch})))
				if !letter && !slices.Contains(at, i) {
					t.Errorf("%s: no cell comes from %d: %v", trial.Told(l), i, at)
				}
			}
		}
	}
}

// P13.5

// No two texts have the same cells: of all short ones, and of trees' flows.
func TestToldApart(t *testing.T) {
	rows := slices.Collect(trial.Flats())
	for _, table := range trial.Tables() {
		a := ready(t, table)
		by := map[string]string{}
		for l := range trial.TextToks() {
			cells, _, _ := fore.Text(a.Trie, l)
			a.apart(by, l, cells)
		}
		for _, l := range rows {
			f, _ := fore.Of(a.Trie, l)
			for _, x := range f {
				a.apart(by, l[x.From:x.To], x.Cells)
			}
		}
		if len(by) < 6000 {
			t.Errorf("%d texts", len(by))
		}
	}
}

// apart looks whether no other text has those cells.
func (a asked) apart(by map[string]string, l []api.Tok, cells string) {
	a.Helper()
	s := trial.Told(l)
	if other, ok := by[cells]; ok && other != s {
		a.Errorf("%d rules: %q and %q are both %q", len(a.rules), s, other, cells)
	}
	by[cells] = s
}

// A text has the same cells, and flows are the same, wherever the tokens stand in the source.
func TestElsewhere(t *testing.T) {
	for _, table := range trial.Tables() {
		a := ready(t, table)
		for l := range trial.Rows(trial.Toks("ab B1<e"), 3) {
			want, at, _ := fore.Text(a.Trie, l)
			if cells, places, e := fore.Text(a.Trie, moved(l)); cells != want || !slices.Equal(places, at) || e != api.OK {
				t.Errorf("%s: %q, %v, %d, want %q, %v", trial.Told(l), cells, places, e, want, at)
			}
		}
	}
	a := ready(t, trial.Ordinary())
	for l := range trial.Flats() {
		want, _ := fore.Of(a.Trie, l)
		if got, e := fore.Of(a.Trie, moved(l)); !slices.EqualFunc(got, want, same) || e != api.OK {
			t.Errorf("%s: %v, %d, want %v", trial.Told(l), got, e, want)
		}
	}
}

// moved is tokens that come from somewhere else.
func moved(l []api.Tok) []api.Tok {
	l = slices.Clone(l)
	for i := range l {
		l[i].At = -7*i*i + len(l)
	}
	return l
}

// A flow's text, asked alone, has the flow's cells.
func TestTextOfFlow(t *testing.T) {
	a := ready(t, trial.Alike())
	for l := range trial.Flats() {
		flows, _ := fore.Of(a.Trie, l)
		for _, f := range flows {
			cells, at, e := fore.Text(a.Trie, l[f.From:f.To])
			for i := range at {
				at[i] += f.From
			}
			if cells != f.Cells || !slices.Equal(at, f.At) || e != api.OK {
				t.Errorf("%s: %q, %v, %d, want %v", trial.Told(l), cells, at, e, f)
			}
		}
	}
}
