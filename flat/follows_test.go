package flat_test

import (
	"slices"
	"strings"
	"testing"

	"stylus/api"
	"stylus/flat"
	"stylus/norm"
	"stylus/tree"
	"stylus/trial"
)

// P7.4

// Neither a row that is handed in nor the room behind its end is changed.
func TestHandedInStays(t *testing.T) {
	whole := append(normal(t, trial.White), trial.InP("  a ", "b")...)
	toks := append(tokensOf(normal(t, trial.White)), trial.Toks("<p a >p>p<x")...)
	for n := range whole {
		l := slices.Clone(whole)
		flat.Of(l[:n])
		flat.Of(l[n:])
		if !slices.Equal(l, whole) {
			t.Fatalf("%d nodes: %q", n, trial.Nodes(l))
		}
	}
	for n := range toks {
		l := slices.Clone(toks)
		flat.Tree(l[:n])
		flat.Tree(l[n:])
		flat.Same(l[:n], l[n:])
		flat.Same(l[:n], slices.Clone(l[:n]))
		if !slices.Equal(l, toks) {
			t.Fatalf("%d tokens: %q", n, trial.Told(l))
		}
	}
}

// What is answered is the caller's: what he makes of it is seen neither by what he handed in, nor by the next call.
func TestAnswersNewMemory(t *testing.T) {
	for _, s := range []string{"{p a}", "{p a{e b}}{k }", trial.White, trial.Rich} {
		n := normal(t, s)
		wasN, toks := slices.Clone(n), tokensOf(n)
		first, again := flatten(t, n), flatten(t, n)
		clear(first[:cap(first)])
		if !slices.Equal(n, wasN) || !slices.Equal(again, toks) || !slices.Equal(flatten(t, n), toks) {
			t.Errorf("%q: %q", s, trial.Told(again))
		}
		clear(n)
		if !slices.Equal(again, toks) {
			t.Errorf("%q: %q, when what was handed in is gone", s, trial.Told(again))
		}
		one, other := treeFrom(t, toks), treeFrom(t, toks)
		clear(one[:cap(one)])
		if !slices.Equal(toks, again) || !slices.Equal(other, wasN) || !slices.Equal(treeFrom(t, toks), wasN) {
			t.Errorf("%q: %q", s, trial.Nodes(other))
		}
		clear(toks)
		if !slices.Equal(other, wasN) {
			t.Errorf("%q: %q, when what was handed in is gone", s, trial.Nodes(other))
		}
	}
}

// flatten is a normalised tree's tokens.
func flatten(t *testing.T, n []api.Node) []api.Tok {
	t.Helper()
	l, e := flat.Of(n)
	if e != api.OK {
		t.Fatalf("Of(%q): %d", trial.Nodes(n), e)
	}
	return l
}

// treeFrom is the tree of a tree's tokens.
func treeFrom(t *testing.T, l []api.Tok) []api.Node {
	t.Helper()
	n, e := flat.Tree(l)
	if e != api.OK {
		t.Fatalf("Tree(%q): %d", trial.Told(l), e)
	}
	return n
}

// The same calls have the same answers, whatever was asked between.
func TestEachTime(t *testing.T) {
	n := normal(t, trial.White)
	l := tokensOf(n)
	for range 20 {
		checkOf(t, n, l)
		checkOfWrong(t, n[1:], api.ErrForm)
		checkOfWrong(t, trial.InP("a "), api.ErrArg)
		checkTree(t, l, n)
		checkTreeWrong(t, l[1:], api.ErrForm)
		checkTreeWrong(t, listsOf(9, "a"), api.ErrDepth)
		checkForm(t, "<pa", "<pa >p")
	}
}

// P7.5

// checkThereAndBack asks that the tree of a normalised tree's tokens is it, and that these are that tree's.
func checkThereAndBack(t *testing.T, n []api.Node) []api.Tok {
	t.Helper()
	l := flatten(t, n)
	back := treeFrom(t, l)
	if !tree.Same(back, n) || !flat.Same(flatten(t, back), l) {
		t.Fatalf("%q has the tokens %q, which are those of %q", trial.Nodes(n), trial.Told(l), trial.Nodes(back))
	}
	return l
}

func TestThereAndBack(t *testing.T) {
	trees := map[string][]api.Node{}
	met := 0
	for l := range trial.Trees() {
		n, _ := norm.Of(l)
		s := trial.Told(checkThereAndBack(t, n))
		if other, ok := trees[s]; ok {
			met++
			if !tree.Same(n, other) {
				t.Fatalf("%q are the tokens of %q and of %q", s, trial.Nodes(n), trial.Nodes(other))
			}
		}
		trees[s] = n
	}
	if len(trees) < 500 || met < 500 {
		t.Errorf("%d rows of tokens, %d of them of one tree more", len(trees), met)
	}
}

func TestThereAndBackLargest(t *testing.T) {
	for _, s := range []string{
		"{p" + strings.Repeat("a", 8187) + "}",
		"{p" + strings.Repeat("a ", 4093) + "b}",
		"{p" + strings.Repeat("{e}", 1999) + "}",
		"{l" + strings.Repeat("{i}", 1999) + "}",
		strings.Repeat("{k}", 2000),
		strings.Repeat("{l{i a", 8) + "{e{s{n b}}}" + strings.Repeat("}}", 8),
	} {
		checkThereAndBack(t, normal(t, s))
	}
}

// The tokens of a row's tree are the row, whatever its places are.
func TestBackAndThere(t *testing.T) {
	trees := 0
	for _, x := range []struct {
		ahead, of, behind string
		most              int
	}{{"", "<p>p<k>ka ", "", 6}, {"<p", "<e>e<n>na ", ">p", 5}, {"<1a", "<e>e<s>sb ", "b>1", 6}, {"<l<i", "<l>l<i>ia ", ">i>l", 5}} {
		ahead, behind := trial.Toks(x.ahead), trial.Toks(x.behind)
		shortToks(x.of, x.most, func(l []api.Tok) {
			l = slices.Concat(ahead, l, behind)
			for i := range l {
				l[i].At = 40 - 7*i
			}
			n, e := flat.Tree(l)
			if e != api.OK {
				return
			}
			trees++
			if back := flatten(t, n); !flat.Same(back, l) {
				t.Fatalf("%q has a tree with %q", trial.Told(l), trial.Told(back))
			}
		})
	}
	if trees < 500 {
		t.Errorf("%d trees", trees)
	}
}

// P7.6

// paired takes openings and closings that stand side by side away, until there are none.
func paired(l []api.Tok) bool {
	s := ""
	for _, x := range l {
		if x.Kind != api.TokChar {
			s += trial.Told([]api.Tok{x})
		}
	}
	for was := ""; was != s; {
		was = s
		for i := range len(trial.Kinds) {
			k := trial.Kinds[i : i+1]
			s = strings.ReplaceAll(s, "<"+k+">"+k, "")
		}
	}
	return s == ""
}

// Of a tree that was parsed, and so has its nodes one behind the other.
func TestPaired(t *testing.T) {
	n := 0
	for l := range trial.Trees() {
		m, _ := norm.Of(l)
		toks := flatten(t, m)
		if !paired(toks) {
			t.Fatalf("%q", trial.Told(toks))
		}
		if !slices.IsSortedFunc(l, func(x, y api.Node) int { return x.At - y.At }) {
			continue
		}
		n++
		if !slices.IsSortedFunc(toks, func(x, y api.Tok) int { return x.At - y.At }) {
			t.Fatalf("%q: %v", trial.Told(toks), toks)
		}
	}
	if n < 1000 {
		t.Errorf("%d trees", n)
	}
}
