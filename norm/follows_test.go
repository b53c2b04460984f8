package norm_test

import (
	"slices"
	"strings"
	"testing"
	"unsafe"

	"stylus/api"
	"stylus/norm"
	"stylus/tree"
	"stylus/trial"
)

// P5.2

// Neither a row that is handed in nor the room behind its end is changed.
func TestHandedInStays(t *testing.T) {
	whole := append(must(t, trial.White), trial.Say("  a ", 3))
	for n := range whole {
		l := slices.Clone(whole)
		norm.Of(l[:n])
		norm.Is(l[:n])
		if !slices.Equal(l, whole) {
			t.Fatalf("%d nodes: %q", n, trial.Nodes(l))
		}
	}
}

// shares tells whether two texts have a byte of memory in common.
func shares(a, b string) bool {
	if a == "" || b == "" {
		return false
	}
	x, y := uintptr(unsafe.Pointer(unsafe.StringData(a))), uintptr(unsafe.Pointer(unsafe.StringData(b)))
	return x < y+uintptr(len(b)) && y < x+uintptr(len(a))
}

// What is answered is the caller's: what he makes of it is seen neither by the row that he handed in, nor by the next call.
func TestOfAnswersNewMemory(t *testing.T) {
	for _, s := range []string{trial.White, trial.Rich, "{p a b}{k }{h1 a {e b}}"} {
		l := must(t, s)
		want := slices.Clone(l)
		first, again := normal(t, l), normal(t, l)
		for _, x := range first {
			for _, y := range l {
				if shares(x.Text, y.Text) {
					t.Errorf("the text %q is a piece of the one that was handed in", x.Text)
				}
			}
		}
		clear(first[:cap(first)])
		if !slices.Equal(l, want) || !slices.Equal(normal(t, l), again) {
			t.Errorf("%q: %q, then %q", s, trial.Nodes(l), trial.Nodes(again))
		}
		clear(l)
		if !slices.Equal(again, normal(t, want)) {
			t.Errorf("%q: %q, when what was handed in is gone", s, trial.Nodes(again))
		}
	}
}

// The answer is one, however often it is asked for, and with how many flows.
func TestOfEachTime(t *testing.T) {
	l := must(t, strings.Repeat("{p  a {e  b } {n  c } d }{k}{l{i  e {l{i  f }}}}", 80))
	want := normed(l)
	for range 30 {
		checkNodes(t, l, want)
	}
}

// P5.3

// bare is a tree's nodes that are no texts, without Sizes, and the bytes of the texts that are not white.
func bare(l []api.Node) (nodes []api.Node, letters string) {
	for _, x := range l {
		if x.Kind == '.' {
			letters += strings.NewReplacer(" ", "", "\n", "").Replace(x.Text)
			continue
		}
		x.Size = 0
		nodes = append(nodes, x)
	}
	return nodes, letters
}

// checkOneForm asks of a tree that may be what follows of it, normalised.
func checkOneForm(t *testing.T, l []api.Node) {
	t.Helper()
	n := normal(t, l)
	if !norm.Is(n) || tree.Check(n) != api.OK || !slices.Equal(normal(t, n), n) {
		t.Fatalf("%q becomes %q", trial.Nodes(l), trial.Nodes(n))
	}
	nodes, letters := bare(l)
	if same, all := bare(n); !slices.Equal(same, nodes) || all != letters {
		t.Fatalf("%q becomes %q", trial.Nodes(l), trial.Nodes(n))
	}
	was, is := trial.FlowTexts(l), trial.FlowTexts(n)
	for i := range was {
		was[i] = strings.Join(strings.Fields(was[i]), " ")
	}
	if !slices.Equal(was, is) {
		t.Fatalf("%q says %q", trial.Nodes(l), is)
	}
}

func TestOneForm(t *testing.T) {
	for l := range trial.Trees() {
		checkOneForm(t, l)
	}
}

// P5.4

// rewhite has each longest row of white of a text as another one; i is how many stand ahead in the tree.
func rewhite(l []api.Node, other func(i int) string) []api.Node {
	out := slices.Clone(l)
	rows := 0
	for i, x := range l {
		s := ""
		for j := range len(x.Text) {
			isWhite := x.Text[j] == ' ' || x.Text[j] == '\n'
			switch {
			case !isWhite:
				s += x.Text[j : j+1]
			case j == 0 || x.Text[j-1] != ' ' && x.Text[j-1] != '\n':
				s += other(rows)
				rows++
			}
		}
		out[i].Text = s
	}
	return out
}

// Trees that are the same but for how many white bytes stand in a row, and which, are the same, normalised.
func TestWhite(t *testing.T) {
	others := []string{" ", "\n", "  ", "\n ", " \n\n", "\n\n\n"}
	for l := range trial.Trees() {
		want := normal(t, l)
		for k := range others {
			for _, step := range []int{0, 1, 5} {
				other := rewhite(l, func(i int) string { return others[(k+i*step)%len(others)] })
				if n := normal(t, other); !tree.Same(n, want) {
					t.Fatalf("%q becomes %q, %q becomes %q", trial.Nodes(l), trial.Nodes(want), trial.Nodes(other), trial.Nodes(n))
				}
			}
		}
	}
}

// Where white is beside none, it is not nothing.
func TestWhiteOrNone(t *testing.T) {
	for _, x := range [][2]string{{"{p ab}", "{p a b}"}, {"{p a{e b}}", "{p a{e  b}}"}, {"{p a{n x}b}", "{p a {n x}b}"}, {"{p a {e b}}", "{p a{e  b}}"}} {
		if tree.Same(normal(t, must(t, x[0])), normal(t, must(t, x[1]))) {
			t.Errorf("%q, %q", x[0], x[1])
		}
	}
}
