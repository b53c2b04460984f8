package canon_test

import (
	"slices"
	"strings"
	"testing"
	"unsafe"

	"stylus/api"
	"stylus/canon"
	"stylus/norm"
	"stylus/tree"
	"stylus/trial"
)

// P6.3

// Neither a row that is handed in nor the room behind its end is changed.
func TestHandedInStays(t *testing.T) {
	whole := append(normal(t, trial.White), trial.InP("  a ", "b")...)
	for n := range whole {
		l := slices.Clone(whole)
		canon.Write(l[:n])
		canon.Write(l[n:])
		if !slices.Equal(l, whole) {
			t.Fatalf("%d nodes: %q", n, trial.Nodes(l))
		}
	}
}

// shares tells whether two texts have a byte of memory in common.
func shares(a, b string) bool {
	if a == "" || b == "" {
		return false
	}
	x, y := uintptr(unsafe.Pointer(unsafe.StringData(a))), uintptr(unsafe.Pointer(unsafe.StringData(b)))
	return x < y+uintptr(len(b)) && y < x+uintptr(len(a))
}

// What is answered is no piece of what was handed in.
func TestAnswersNewMemory(t *testing.T) {
	for _, s := range []string{"{p a}\n", "{p a{e b}}\n{k }\n", blocksOf(normal(t, trial.White))} {
		c, _, _ := canon.Of(s)
		if c != s || shares(c, s) {
			t.Errorf("Of(%q) = %q", s, c)
		}
		l := normal(t, s)
		c, _ = canon.Write(l)
		for _, x := range l {
			if shares(c, x.Text) {
				t.Errorf("Write shares the text %q", x.Text)
			}
		}
		clear(l)
		if c != s {
			t.Errorf("%q, when what was handed in is gone", c)
		}
	}
}

// The same calls have the same answers, whatever was asked between.
func TestEachTime(t *testing.T) {
	l := normal(t, trial.White)
	want := blocksOf(l)
	for range 20 {
		checkWrite(t, l, want)
		checkWriteWrong(t, l[1:], api.ErrForm)
		checkWriteWrong(t, trial.InP(strings.Repeat("a", 9000)), api.ErrBound)
		checkOfWrong(t, strings.Repeat("{k}", 1999), 0, api.ErrBound)
		checkOf(t, trial.White, want)
	}
}

// P6.4, P6.5

// checkThereAndBack asks of a normalised tree what follows of its canonical text, which it is.
func checkThereAndBack(t *testing.T, n []api.Node) string {
	t.Helper()
	c, e := canon.Write(n)
	if e != api.OK {
		t.Fatalf("Write(%q): %d", trial.Shown(trial.Nodes(n)), e)
	}
	back, at, e := tree.Parse(c)
	if !tree.Same(back, n) || at != 0 || e != api.OK || !norm.Is(back) {
		t.Fatalf("%q is written as %q, which is parsed as %q, %d, %d", trial.Nodes(n), c, trial.Nodes(back), at, e)
	}
	if again, at, e := canon.Of(c); again != c || at != 0 || e != api.OK {
		t.Fatalf("Of(%q) = %q, %d, %d", c, again, at, e)
	}
	return c
}

// Trees that are not the same, but may be so when normalised.
func TestThereAndBack(t *testing.T) {
	trees := map[string][]api.Node{}
	met := 0
	for l := range trial.Trees() {
		n, _ := norm.Of(l)
		c := checkThereAndBack(t, n)
		if other, ok := trees[c]; ok {
			met++
			if !tree.Same(n, other) {
				t.Fatalf("%q has the text of %q and of %q", c, trial.Nodes(n), trial.Nodes(other))
			}
		}
		trees[c] = n
	}
	if len(trees) < 500 || met < 500 {
		t.Errorf("%d texts, %d of them of one tree more", len(trees), met)
	}
}

// No two normalised rows that are not the same have one text.
func TestOneTextEach(t *testing.T) {
	trees := map[string][]api.Node{}
	for _, x := range []struct {
		ahead, of []api.Node
		most      int
	}{
		{nil, slices.Concat(trial.Every("pek", "", 3)[1:], trial.Every(".", "a", 1)[1:], trial.Every(".", "e", 1)[1:]), 4},
		{[]api.Node{trial.Node('1', 0, 6), trial.Say("a", 0)}, slices.Concat(trial.Every("en", "", 3)[1:], trial.Every(".", "a", 1)[1:], trial.Every(".", " b", 1)[1:], trial.Every(".", "b ", 1)[1:]), 4},
		{[]api.Node{trial.Node('l', 0, 6), trial.Node('i', 0, 5)}, slices.Concat(trial.Every("li", "", 3)[1:], trial.Every("s", "", 2)[1:], trial.Every(".", "i", 1)[1:]), 4},
	} {
		for l := range trial.Rows(x.of, x.most) {
			l = slices.Concat(x.ahead, l)
			if !norm.Is(l) {
				continue
			}
			c := checkThereAndBack(t, l)
			if other, ok := trees[c]; ok && !tree.Same(l, other) {
				t.Fatalf("%q has the text of %q and of %q", c, trial.Nodes(l), trial.Nodes(other))
			}
			trees[c] = l
		}
	}
	if len(trees) < 200 {
		t.Errorf("%d texts", len(trees))
	}
}

// Trees that are the same but for places have one text.
func TestOneTextOfTheSame(t *testing.T) {
	for l := range trial.Trees() {
		n, _ := norm.Of(l)
		want, _ := canon.Write(n)
		for i := range n {
			n[i].At = 7 - 3*i
		}
		checkWrite(t, n, want)
	}
}

// The longest text, and that of most nodes, goes there and back.
func TestThereAndBackLongest(t *testing.T) {
	for _, s := range []string{
		"{p" + strings.Repeat("a", 8187) + "}",
		"{p" + strings.Repeat("a ", 4093) + "b}",
		"{p" + strings.Repeat("{e}", 1999) + "}",
		"{l" + strings.Repeat("{i}", 1999) + "}",
		strings.Repeat("{k}", 1638),
		strings.Repeat("{l{i a", 8) + "{e{s{n b}}}" + strings.Repeat("}}", 8),
	} {
		checkThereAndBack(t, normal(t, s))
	}
}
