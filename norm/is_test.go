package norm_test

import (
	"math"
	"slices"
	"strings"
	"testing"

	"stylus/api"
	"stylus/norm"
	"stylus/trial"
)

// P5.1: Is

func TestIs(t *testing.T) {
	for _, s := range []string{"", "{p }", "{p a}", "{p a b}", "{p a {e b} c}", "{p {n x}a}", "{k }", "{l {i a{l {i b}}}}", "{t {r {c a}{c }}}", "{p a{e  }b}"} {
		if !norm.Is(must(t, s)) {
			t.Errorf("Is(%q) = false", s)
		}
	}
	for _, s := range []string{"{p  }", "{p  a}", "{p a }", "{p a\nb}", "{p a  b}", "{p a {e  b}}", "{p {n x} a}", "{p a {n x}}", "{l {i a {l {i b}}}}", "{t {r {c a }{c }}}", "{p a{e  }}", "{p a{e  } b}"} {
		if norm.Is(must(t, s)) {
			t.Errorf("Is(%q) = true", s)
		}
	}
}

// A tree that is normalised is so no more with another white byte beside one, or at a flow's begin or end, or with LF for a space.
func TestIsButForOneByte(t *testing.T) {
	whole := normal(t, must(t, trial.White+"{p ab cd{e ef}gh{n xy}}"))
	if !norm.Is(whole) {
		t.Fatalf("%q", trial.Nodes(whole))
	}
	one, is := 0, 0
	for i, x := range whole {
		for at := range len(x.Text) + 1 {
			if x.Kind != '.' {
				continue
			}
			for _, b := range []string{" ", "\n"} {
				l := slices.Clone(whole)
				l[i].Text = x.Text[:at] + b + x.Text[at:]
				if checkWords(t, l); norm.Is(l) {
					is++
				}
				one++
				if at < len(x.Text) && x.Text[at] == ' ' {
					if l[i].Text = x.Text[:at] + "\n" + x.Text[at+1:]; norm.Is(l) {
						t.Errorf("with LF at %d of node %d", at, i)
					}
					if l[i].Text = x.Text[:at] + b + x.Text[at:]; norm.Is(l) {
						t.Errorf("with white ahead of the space at %d of node %d", at, i)
					}
				}
			}
		}
	}
	if one < 50 || is == 0 || is > one/2 {
		t.Errorf("%d of %d", is, one)
	}
}

// Nor with two text nodes side by side for one, whatever they say.
func TestIsButForTwoTexts(t *testing.T) {
	for _, s := range []string{trial.White, trial.Rich, "{p a b{e  c}d e}"} {
		l := normal(t, must(t, s))
		for i, x := range l {
			for at := 1; at < len(x.Text); at++ {
				if norm.Is(trial.Split(l, i, at)) {
					t.Errorf("%q", trial.Nodes(trial.Split(l, i, at)))
				}
			}
		}
	}
}

// Places count for nothing.
func TestIsPlaces(t *testing.T) {
	l, other := normal(t, must(t, trial.White)), must(t, trial.White)
	for _, at := range []int{0, -1, 7, math.MaxInt, math.MinInt} {
		for i := range l {
			l[i].At = at * (i % 3)
		}
		for i := range other {
			other[i].At = at * (i % 2)
		}
		if !norm.Is(l) || norm.Is(other) {
			t.Errorf("at %d: %v, %v", at, norm.Is(l), norm.Is(other))
		}
	}
}

// A tree that is normalised but for its Sizes, or its bounds, is none.
func TestIsNoTree(t *testing.T) {
	l := normal(t, must(t, trial.White))
	for i, x := range l {
		for _, size := range []int{0, -x.Size, x.Size + 100, math.MaxInt} {
			l[i].Size = size
			if norm.Is(l) {
				t.Errorf("node %d with Size %d", i, size)
			}
		}
		l[i].Size = x.Size
	}
	if !norm.Is(l) {
		t.Errorf("%q", trial.Nodes(l))
	}
	if k := []api.Node{trial.Node('k', 0, 1)}; !norm.Is(slices.Repeat(k, 2000)) || norm.Is(slices.Repeat(k, 2001)) {
		t.Error("2000 nodes")
	}
	for _, n := range []int{60, 61} {
		if l := []api.Node{trial.Node('p', 0, 3), trial.Node('n', 0, 2), trial.Say(strings.Repeat("a", n), 0)}; norm.Is(l) != (n == 60) {
			t.Errorf("a note of %d bytes", n)
		}
	}
}
