package fore_test

import (
	"regexp"
	"slices"
	"testing"

	"stylus/api"
	"stylus/chunk"
	"stylus/flat"
	"stylus/fore"
	"stylus/trial"
	"stylus/trie"
)

// The document's words are said anew here: on texts by a pattern that parts them at their spaces, on flows by the tree's nodes, so that no test leans on the program's own.

// asked is a table that is ready, beside its rules.
type asked struct {
	*testing.T
	*trie.Trie
	rules []api.Rule
}

// ready makes a table ready.
func ready(t *testing.T, l []api.Rule) asked {
	return asked{t, trial.Ready(l), slices.Clone(l)}
}

// chunkOrSpace is what a text is made of, told by a space for a space, and a point for any other token.
var chunkOrSpace = regexp.MustCompile(` |\.+`)

// isSpace tells whether a token is a space.
func isSpace(x api.Tok) bool { return x.Kind == 1 && x.Ch == ' ' }

// text says the words on a text: its cells, and from which place each comes.
func (a asked) text(l []api.Tok) (cells string, at []int) {
	a.Helper()
	sorts := ""
	for _, x := range l {
		sorts += map[bool]string{true: " ", false: "."}[isSpace(x)]
	}
	for _, x := range chunkOrSpace.FindAllStringIndex(sorts, -1) {
		from, to := x[0], x[1]
		if isSpace(l[from]) {
			cells, at = cells+"\x00", append(at, from)
			continue
		}
		pieces, e := chunk.Of(a.Trie, l[from:to])
		if e != api.OK {
			a.Fatalf("%s is no chunk", trial.Shown(trial.Told(l[from:to])))
		}
		for _, y := range pieces {
			cells += a.rules[y.Rule].Cells
			at = append(at, slices.Repeat([]int{from + y.From}, len(a.rules[y.Rule].Cells))...)
		}
	}
	return cells, at
}

// first tells whether no node that stands in the same one as another node is ahead of it.
func first(t []api.Node, place int) bool {
	in := trial.Around(t, place, trial.Kinds)
	for i := range place {
		if trial.Around(t, i, trial.Kinds) == in {
			return false
		}
	}
	return true
}

// code says the words on a node's flow; 0, if it has none.
func code(t []api.Node, place int) int {
	switch kind := t[place].Kind; kind {
	case '1', '2', '3':
		return int(kind - '0')
	case 'p':
		return 4
	case 'k':
		return 10
	case 'i':
		if first(t, place) {
			return 5
		}
		return 6
	case 'c':
		switch {
		case !first(t, place):
			return 9
		case first(t, trial.Around(t, place, "r")):
			return 7
		}
		return 8
	}
	return 0
}

// spans is where each node but texts is opened, and closed, by its place; the tokens are its tree's.
func spans(t []api.Node, l []api.Tok) (opens, closes map[int]int) {
	opens, closes = map[int]int{}, map[int]int{}
	var around []int
	place := -1
	for at, x := range l {
		switch x.Kind {
		case 2:
			for place++; t[place].Kind == '.'; place++ {
			}
			opens[place] = at
			around = append(around, place)
		case 3:
			last := len(around) - 1
			closes[around[last]] = at
			around = around[:last]
		}
	}
	return opens, closes
}

// depth is how many lists there are around a node.
func depth(t []api.Node, place int) int {
	if in := trial.Around(t, place, "l"); in >= 0 {
		return 1 + depth(t, in)
	}
	return 0
}

// flows says the words on the flows of a normalised tree's tokens.
func (a asked) flows(l []api.Tok) (out []api.Flow) {
	a.Helper()
	t, e := flat.Tree(l)
	if e != api.OK {
		a.Fatalf("%s: %d", trial.Shown(trial.Told(l)), e)
	}
	opens, closes := spans(t, l)
	for i, x := range t {
		f := api.Flow{Code: code(t, i), From: opens[i] + 1, To: closes[i]}
		if f.Code == 0 {
			continue
		}
		if x.Kind == 'i' {
			f.Depth = depth(t, i)
		}
		for j, y := range t {
			if x.Kind == 'i' && y.Kind == 'l' && trial.Around(t, j, trial.Kinds) == i {
				f.To = min(f.To, opens[j])
			}
		}
		f.Cells, f.At = a.text(l[f.From:f.To])
		for j := range f.At {
			f.At[j] += f.From
		}
		out = append(out, f)
	}
	return out
}

// same tells whether two flows are alike in all.
func same(x, y api.Flow) bool {
	return x.Code == y.Code && x.Depth == y.Depth && x.Cells == y.Cells && slices.Equal(x.At, y.At) && x.From == y.From && x.To == y.To
}

// says asks a text for what the words say of it, and answers its cells.
func (a asked) says(l []api.Tok) string {
	a.Helper()
	cells, at, e := fore.Text(a.Trie, l)
	want, wantAt := a.text(l)
	if cells != want || !slices.Equal(at, wantAt) || e != api.OK {
		a.Errorf("Text(%s) of %d rules: %q, %v, %d, want %q, %v", trial.Shown(trial.Told(l)), len(a.rules), cells, at, e, want, wantAt)
	}
	return want
}

// has asks tokens for the flows that the words say, and answers them.
func (a asked) has(l []api.Tok) []api.Flow {
	a.Helper()
	got, e := fore.Of(a.Trie, l)
	want := a.flows(l)
	if !slices.EqualFunc(got, want, same) || e != api.OK {
		a.Errorf("Of(%s) of %d rules: %v, %d, want %v", trial.Shown(trial.Told(l)), len(a.rules), got, e, want)
	}
	return want
}

// refused asks a text for nothing, and for the error.
func (a asked) refused(l []api.Tok) {
	a.Helper()
	if cells, at, e := fore.Text(a.Trie, l); cells != "" || at != nil || e != api.ErrArg {
		a.Errorf("Text(%s): %q, %v, %d", trial.Shown(trial.Told(l)), cells, at, e)
	}
}

// refusedOf asks tokens for no flow, and for an error.
func (a asked) refusedOf(l []api.Tok, err api.Errno) {
	a.Helper()
	if f, e := fore.Of(a.Trie, l); f != nil || e != err {
		a.Errorf("Of(%s): %v, %d, want %d", trial.Shown(trial.Told(l)), f, e, err)
	}
}

// cells is those of rules by their Lefts.
func (a asked) cells(lefts string) string { return trial.CellsOf(a.rules, lefts) }
