package trial

import (
	"iter"
	"math"
	"slices"
	"strings"

	"stylus/api"
	"stylus/tree"
)

// Node is one that is no text.
func Node(kind byte, at, size int) api.Node { return api.Node{Kind: kind, At: at, Size: size} }

// Say is a text node.
func Say(text string, at int) api.Node {
	return api.Node{Kind: api.KindText, Text: text, At: at, Size: 1}
}

// InP is a paragraph of text nodes alone, one for each text, as far from each
// other as they are long.
func InP(texts ...string) []api.Node {
	l := []api.Node{Node('p', 5, len(texts)+1)}
	at := 8
	for _, s := range texts {
		l = append(l, Say(s, at))
		at += len(s)
	}
	return l
}

// Split has the text node at a place as two, parted at one of its bytes.
func Split(l []api.Node, place, at int) []api.Node {
	x := l[place]
	out := slices.Concat(l[:place], []api.Node{Say(x.Text[:at], x.At), Say(x.Text[at:], x.At+at)}, l[place+1:])
	for i := range place {
		if i+l[i].Size > place {
			out[i].Size++
		}
	}
	return out
}

// Wrong is rows of nodes that are no tree that may be, by the error.
func Wrong() map[api.Errno][][]api.Node {
	whole, _, _ := tree.Parse(White)
	deep := []api.Node{}
	for i := range 9 {
		deep = append(deep, Node('l', 0, 18-2*i), Node('i', 0, 17-2*i))
	}
	return map[api.Errno][][]api.Node{
		api.ErrForm: {
			{Node('q', 0, 1)}, {Node('p', 0, 0)}, {Node('p', 0, 2)}, {Node('p', 0, -1)}, {Node('p', 0, math.MaxInt)}, {Say("a", 0)}, {Say(" ", 0)}, {Node('l', 0, 1)}, {Node('i', 0, 1)}, {{}},
			InP(""), InP("a", ""), InP("~"), InP(" \t"), InP("a\x00"), InP("caf\u00e9"),
			{Node('p', 0, 2), {Kind: '.', Text: "a", Size: 2}}, {{Kind: 'p', Text: "a", Size: 1}}, {Node('p', 0, 1), Say("a", 0)},
			{Node('l', 0, 3), Say(" ", 0), Node('i', 0, 1)}, {Node('p', 0, 2), Node('p', 0, 1)},
			whole[1:], slices.Concat(whole, []api.Node{Say(" ", 0)}), whole[:5],
		},
		api.ErrDepth: {deep},
		api.ErrBound: {
			slices.Repeat([]api.Node{Node('k', 0, 1)}, 2001),
			InP(slices.Repeat([]string{" "}, 2000)...),
			{Node('p', 0, 3), Node('n', 0, 2), Say(strings.Repeat("a ", 30)+"a", 0)},
			{Node('p', 0, 3), Node('n', 0, 2), Say(strings.Repeat(" ", 61), 0)},
			{Node('p', 0, 4), Node('n', 0, 3), Say(strings.Repeat("\n", 60), 0), Say(" ", 0)},
		},
	}
}

// Trees goes over trees that may be, of many forms, most of them not normalised.
func Trees() iter.Seq[[]api.Node] {
	return func(yield func([]api.Node) bool) {
		for s := range sources() {
			if l, _, e := tree.Parse(s); e == api.OK && !yield(l) {
				return
			}
		}
		for texts := range Rows([]string{"a", " ", "\n b ", "  c"}, 5) {
			if !yield(InP(texts...)) {
				return
			}
		}
	}
}

// sources goes over many, of which not all are right.
func sources() iter.Seq[string] {
	return func(yield func(string) bool) {
		for _, s := range []string{"", "{k}", White, Rich, White + "\n" + Rich} {
			if !yield(s) {
				return
			}
		}
		for _, x := range []struct {
			ahead, pieces string
			most          int
		}{{"{p", "en. }", 6}, {"", "pe.} ", 5}, {"{l{i", "lie. }", 5}, {"{t{r{c", "c. }", 6}} {
			for pieces := range Texts(x.pieces, x.most) {
				s := x.ahead + Written(pieces)
				if !yield(s + Ends(s)) {
					return
				}
			}
		}
	}
}

// Around is the place of the innermost node of some kinds around another one; -1, if there is none.
func Around(t []api.Node, place int, kinds string) int {
	for i := place - 1; i >= 0; i-- {
		if i+t[i].Size > place && strings.IndexByte(kinds, t[i].Kind) >= 0 {
			return i
		}
	}
	return -1
}

// FlowTexts is what each flow of a tree says, in the order in which the flows begin.
func FlowTexts(t []api.Node) []string {
	var all []string
	for i, x := range t {
		if strings.IndexByte("123picn", x.Kind) < 0 {
			continue
		}
		s := ""
		for j, y := range t {
			if y.Kind == '.' && Around(t, j, "123picn") == i {
				s += y.Text
			}
		}
		all = append(all, s)
	}
	return all
}
