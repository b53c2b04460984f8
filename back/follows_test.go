package back_test

import (
	"iter"
	"slices"
	"strconv"
	"strings"
	"testing"
	"unsafe"

	"stylus/api"
	"stylus/back"
	"stylus/chunk"
	"stylus/fore"
	"stylus/trial"
)

// P14.3

// handed is cells and flows of several sorts, some of which can't be read.
func (a asked) handed() (cells []string, flows [][]api.Flow) {
	for _, s := range []string{"", "_", "but _ let b _", "caps s and _ _ num 1 let a", "e+ a e-", "a blk", "_ ness"} {
		cells = append(cells, a.cells(s))
	}
	for _, l := range [][]string{{}, {"4 but"}, {"1 cap a", "10", "4 a _ a"}, {"5.1 a", "5.2 cap but", "6.2", "6.1 num 1"}, {"7 a", "9", "8", "9 e+ a e-"}, {"4 a", "6.1"}, {"7", "9", "8"}, {"4 ind"}} {
		flows = append(flows, a.flowsOf(l...))
	}
	return cells, flows
}

// sameFlow tells whether two flows are alike in all.
func sameFlow(x, y api.Flow) bool {
	return x.Code == y.Code && x.Depth == y.Depth && x.Cells == y.Cells && slices.Equal(x.At, y.At) && x.From == y.From && x.To == y.To
}

// Neither cells, flows and their lists are changed, nor the room behind the ends of these, nor the table.
func TestHandedInStays(t *testing.T) {
	for _, table := range [][]api.Rule{trial.Fores(), trial.Fill(trial.Fores(), api.MaxRules)} {
		a := ready(t, table)
		cells, flows := a.handed()
		for _, s := range cells {
			given := []byte(s + "\x01\x00\x33")
			at := unsafe.String(&given[0], len(s))
			back.Chunk(a.Trie, at)
			back.Text(a.Trie, at)
			back.Tokens(a.Trie, []api.Flow{{Code: 4, Cells: at}, {Code: 5, Depth: 1, Cells: at}})
			if string(given) != s+"\x01\x00\x33" {
				t.Errorf("%q is %q", s, given)
			}
		}
		for _, l := range flows {
			for i := range l {
				l[i].At, l[i].From, l[i].To = []int{i, 7, 9}[:2], i+1, -i
			}
			all := append(slices.Clone(l), api.Flow{Code: 4, Cells: "\x01"}, api.Flow{Code: 10, At: []int{3}})
			given := slices.Clone(all)
			for i := range given {
				given[i].At = slices.Clone(given[i].At)
			}
			back.Tokens(a.Trie, all[:len(l)])
			if !slices.EqualFunc(all, given, sameFlow) {
				t.Errorf("%s are %s", shown(given), shown(all))
			}
		}
		if !slices.Equal(table, a.rules) || !slices.Equal(a.Rules(), a.rules) {
			t.Error("the rules are others")
		}
	}
}

// Nothing that is handed in is kept: what becomes of it behind the call is not seen in the answer, nor by the next call.
func TestHandedInNotKept(t *testing.T) {
	a := ready(t, trial.Fores())
	given := []byte(a.cells("but _ cap a e+"))
	want := a.text(string(given))
	l, at, e := back.Text(a.Trie, unsafe.String(&given[0], len(given)))
	copy(given, "\x33\x33\x33\x33")
	a.same(l, at, e, want, "Text", "behind others")
	a.asText(a.cells("but _ cap a e+"), want)
	flows := a.flowsOf("5.1 a", "6.1 but")
	wanted := a.flows(flows)
	l, at, e = back.Tokens(a.Trie, flows)
	clear(flows)
	a.same(l, at, e, wanted, "Tokens", "behind others")
	a.asFlows(a.flowsOf("5.1 a", "6.1 but"), wanted)
}

// What is answered is the caller's: what he makes of it is not seen by the next call, nor in another answer.
func TestAnswersNewMemory(t *testing.T) {
	for _, table := range [][]api.Rule{trial.Fores(), trial.Fill(trial.Fores(), api.MaxRules)} {
		a := ready(t, table)
		cells, flows := a.handed()
		var calls []func() ([]api.Tok, int, api.Errno)
		for _, s := range cells {
			calls = append(calls, func() ([]api.Tok, int, api.Errno) { return back.Chunk(a.Trie, s) }, func() ([]api.Tok, int, api.Errno) { return back.Text(a.Trie, s) })
		}
		for _, l := range flows {
			calls = append(calls, func() ([]api.Tok, int, api.Errno) { return back.Tokens(a.Trie, l) })
		}
		for i, call := range calls {
			one, at, e := call()
			want := answer{trial.Told(one), at, e}
			other, _, _ := call()
			one = append(one, api.Tok{Kind: 9})
			for j := range one[:cap(one)] {
				one[:cap(one)][j] = api.Tok{Kind: 7, Ch: '~', At: -1}
			}
			a.same(other, at, e, want, "another answer of call", strconv.Itoa(i))
			again, at, e := call()
			a.same(again, at, e, want, "call again of", strconv.Itoa(i))
		}
	}
}

// The same calls have the same answers, whatever was asked between, and of whichever table.
func TestEachTime(t *testing.T) {
	for range 3 {
		for _, table := range trial.Tables() {
			a := ready(t, table)
			for range 3 {
				for _, s := range []string{"b", "cap b _ caps b a", "caps a", "num 1", "num", "e+", "a blk", "let b _ b", ""} {
					a.says(a.cells(s))
				}
				for _, l := range [][]string{{"4 b", "10"}, {"5.1 b", "5.2 caps", "6.2"}, {"7 a", "9"}, {"9"}, {"6.1"}, {"4 _"}, {}} {
					a.asFlows(a.flowsOf(l...), a.flows(a.flowsOf(l...)))
				}
			}
		}
	}
}

// P14.4

// returns looks whether a text's cells are read as its tokens; those of a chunk as its, too.
func (a asked) returns(l []api.Tok) {
	a.Helper()
	cells, _, e := fore.Text(a.Trie, l)
	if e != api.OK {
		a.Fatalf("%s: %d", trial.Shown(trial.Told(l)), e)
	}
	want := answer{told: trial.Told(l)}
	a.asText(cells, want)
	if chunk.Check(l) == api.OK {
		a.asChunk(cells, want)
	}
}

func TestTextsThereAndBack(t *testing.T) {
	for _, table := range trial.Tables() {
		a := ready(t, table)
		for l := range trial.TextToks() {
			a.returns(l)
		}
	}
}

// Chunks of each rule's Left, cased in each way, alone and with a token of each sort beside it.
func TestLeftsThereAndBack(t *testing.T) {
	for _, table := range trial.Tables() {
		a := ready(t, table)
		for _, x := range table {
			if x.What > api.RuleWord {
				continue
			}
			last := len(x.Left) - 1
			for _, s := range []string{x.Left, strings.ToUpper(x.Left), strings.ToUpper(x.Left[:1]) + x.Left[1:], x.Left[:last] + strings.ToUpper(x.Left[last:])} {
				a.returns(trial.Toks(s))
				a.returns(trial.Toks(s + " " + s + "1" + s))
				for _, beside := range []string{"a", "A", "1", ".", ">e", "ST"} {
					a.returns(trial.Toks(s + beside))
					a.returns(trial.Toks(beside + s))
				}
			}
		}
	}
}

// One token of each sort, and each of them beside each other one.
func TestTokensThereAndBack(t *testing.T) {
	var all []api.Tok
	for c := range 256 {
		for kind := 1; kind <= 3; kind++ {
			if x := (api.Tok{Kind: kind, Ch: byte(c), At: c}); chunk.Check([]api.Tok{x}) == api.OK || kind == 1 && c == ' ' {
				all = append(all, x)
			}
		}
	}
	if len(all) != 26+26+10+12+1+6 {
		t.Errorf("%d tokens", len(all))
	}
	for _, table := range [][]api.Rule{trial.Fores(), trial.Alike()} {
		a := ready(t, table)
		for l := range trial.Rows(all, 2) {
			a.returns(l)
		}
	}
}

// A text as long as a source may be.
func TestLongThereAndBack(t *testing.T) {
	for _, table := range trial.Tables() {
		a := ready(t, table)
		for _, s := range []string{"but b B1. ", "a", "aB", "STand", "12", ".", " ", "<e>e"} {
			a.returns(slices.Repeat(trial.Toks(s), api.MaxSource/len(s)))
		}
	}
}

// The flows of trees' tokens are read as these.
func TestTreesThereAndBack(t *testing.T) {
	rows := slices.Collect(trial.Flats())
	for _, table := range trial.Tables() {
		a := ready(t, table)
		for _, l := range rows {
			a.goesBack(l)
		}
		a.goesBack(trial.FlatOf(trial.Rich))
		a.goesBack(trial.FlatOf(trial.White))
		a.goesBack(trial.FlatOf(strings.Repeat("{l{i ", api.MaxLists) + "{s{e{n x}}}" + strings.Repeat("}}", api.MaxLists)))
		a.goesBack(trial.FlatOf(strings.Repeat("{k}", api.MaxNodes)))
		a.goesBack(trial.FlatOf("{p{n " + strings.Repeat("x", api.MaxNote) + "}}"))
	}
}

// goesBack looks whether a tree's tokens come back from their flows.
func (a asked) goesBack(l []api.Tok) {
	a.Helper()
	flows, e := fore.Of(a.Trie, l)
	if e != api.OK {
		a.Fatalf("%s: %d", trial.Shown(trial.Told(l)), e)
	}
	a.asFlows(flows, answer{told: trial.Told(l)})
}

// P14.5

// flowRows goes over many rows of flows, of which some are not what any tree has: of cells that no chunk is written as, of places where they may not stand, of cells that can't be read, or not as a tree.
func (a asked) flowRows() iter.Seq[[]api.Flow] {
	return func(yield func([]api.Flow) bool) {
		for _, x := range []struct {
			texts []string
			most  int
		}{
			{[]string{"1 cap a", "4", "5.1", "5.2 s a n", "6.1 let b", "7", "8 caps a", "9", "10"}, 4},
			{[]string{"5.1 let let a", "5.2", "5.3", "6.1", "6.2 num 1 num 2", "6.3"}, 5},
			{[]string{"7", "8 b", "9 cap let", "4 e+ caps e-"}, 6},
			{[]string{"4 b", "4 e+", "4 num 1 cap a", "4 a _ b", "4 _ a", "4 blk", "4 cap", "2 caps . a", "3.1", "11"}, 3},
		} {
			for l := range trial.Rows(a.flowsOf(x.texts...), x.most) {
				if !yield(l) {
					return
				}
			}
		}
	}
}

// What Tokens answers has flows, of the same codes and depths, which are read as it.
func TestTreeHasFlows(t *testing.T) {
	for _, table := range trial.Tables() {
		a := ready(t, table)
		read, refused := 0, 0
		for l := range a.flowRows() {
			out, _, e := back.Tokens(a.Trie, l)
			if e != api.OK {
				refused++
				continue
			}
			read++
			a.hasFlows(out, l)
		}
		if read < 1000 || refused < 1000 {
			t.Errorf("%d rows are read, %d are not", read, refused)
		}
	}
}

// hasFlows looks whether tokens that flows are read as have ones of the same codes and depths, which are read as they are.
func (a asked) hasFlows(l []api.Tok, of []api.Flow) {
	a.Helper()
	flows, e := fore.Of(a.Trie, l)
	if e != api.OK || !slices.EqualFunc(flows, of, func(x, y api.Flow) bool { return x.Code == y.Code && x.Depth == y.Depth }) {
		a.Errorf("%s are read as %s, whose flows are %s, %d", shown(of), trial.Shown(trial.Told(l)), shown(flows), e)
	}
	a.asFlows(flows, answer{told: trial.Told(l)})
}
