package trial

import (
	"iter"
	"strings"

	"stylus/api"
	"stylus/flat"
	"stylus/norm"
	"stylus/tree"
)

// said is pieces of what flows say: of each sort of tokens some, and words.
var said = [10]string{"but", "B", "AND", " ", "1", ".", "{e x}", "{s{e 2 }}", "{n a b}", "{n}"}

// Flats goes over the tokens of normalised trees of many forms, each row once.
func Flats() iter.Seq[[]api.Tok] {
	return func(yield func([]api.Tok) bool) {
		seen := map[string]bool{}
		for t := range flatTrees() {
			n, _ := norm.Of(t)
			l, _ := flat.Of(n)
			if s := Told(l); !seen[s] {
				seen[s] = true
				if !yield(l) {
					return
				}
			}
		}
	}
}

// FlatOf is the tokens of a source, normalised, which must be one's, for a test
// that wants others than it says would show nothing.
func FlatOf(source string) []api.Tok {
	t, _, e := tree.Parse(source)
	n, f := norm.Of(t)
	l, g := flat.Of(n)
	if e != api.OK || f != api.OK || g != api.OK {
		panic("trial: no source: " + Shown(source))
	}
	return l
}

// flatTrees goes over those trees, not normalised, some of them more than once.
func flatTrees() iter.Seq[[]api.Node] {
	return func(yield func([]api.Node) bool) {
		for t := range Trees() {
			if !yield(t) {
				return
			}
		}
		for s := range flowSources() {
			if t, _, e := tree.Parse(s); e == api.OK && !yield(t) {
				return
			}
		}
	}
}

// flowSources goes over sources of all short rows of pieces, of items, of cells
// and of blocks. Not all are right.
func flowSources() iter.Seq[string] {
	return func(yield func(string) bool) {
		for _, x := range []struct {
			ahead string
			of    []string
			most  int
		}{{"{p ", said[:], 3}, {"{l{i ", items[:], 5}, {"{t{r{c ", cells[:], 6}, {"", blocks(), 3}} {
			for l := range Rows(x.of, x.most) {
				s := x.ahead + strings.Join(l, "")
				if !yield(s + Ends(s)) {
					return
				}
			}
		}
	}
}

// items is how an item may come behind another one: in a list within it, as the
// next one of its list, as that of the list around, and in a list that comes next.
var items = [5]string{"a{l{i ", "{l{i b", "}{i a", "}}}{i ", "}}{l{i "}

// cells is how a cell may come behind another one: as the next one of its row, in
// the next row, and in a table that comes next.
var cells = [4]string{"}{c ", "a}{c b", "}}{r{c a", "}}}{t{r{c "}

// blocks is sources of blocks, one of each sort.
func blocks() []string {
	return []string{
		"{h1 A{n x y}}", "{h2 But 1}", "{h3}", "{p{e a}b c.}", "{p}", "{k}",
		"{l{i a{l{i b}}{l{i}{i C d}}}{i{s x}{l{i{l{i y}}}}}{i 2}}", "{l{i}}",
		"{t{r{c a}{c}}{r{c b c}{c D{e e}}}{r{c}{c}}}", "{t{r{c}}}",
	}
}
