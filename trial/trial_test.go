package trial_test

import (
	"slices"
	"strings"
	"testing"

	"stylus/api"
	"stylus/lex"
	"stylus/tree"
	"stylus/trial"
)

func TestTexts(t *testing.T) {
	for _, x := range []struct {
		alphabet string
		most     int
		want     []string
	}{
		{"ab", 2, []string{"", "a", "b", "aa", "ab", "ba", "bb"}},
		{"\xff\x00", 1, []string{"", "\xff", "\x00"}},
		{"ab", 0, []string{""}},
		{"", 3, []string{""}},
	} {
		if got := slices.Collect(trial.Texts(x.alphabet, x.most)); !slices.Equal(got, x.want) {
			t.Errorf("Texts(%q, %d): %q", x.alphabet, x.most, got)
		}
	}
}

func TestTextsLeft(t *testing.T) {
	n := 0
	for range trial.Texts("abc", 9) {
		n++
		if n == 5 {
			break
		}
	}
	if n != 5 {
		t.Errorf("%d texts", n)
	}
}

func TestRows(t *testing.T) {
	var got [][]int
	for l := range trial.Rows([]int{7, 300}, 2) {
		got = append(got, l)
		if len(got) == 6 {
			break
		}
	}
	if want := [][]int{{}, {7}, {300}, {7, 7}, {7, 300}, {300, 7}}; !slices.EqualFunc(got, want, slices.Equal) {
		t.Errorf("%v", got)
	}
	for l := range trial.Rows([]string{}, 3) {
		if len(l) > 0 {
			t.Errorf("%v", l)
		}
	}
}

func TestShown(t *testing.T) {
	if a, b := trial.Shown("ab"), trial.Shown(strings.Repeat("ab", 21)); a != "ab" || b != strings.Repeat("ab", 20) {
		t.Errorf("%q, %q", a, b)
	}
}

func TestNodes(t *testing.T) {
	l := []api.Node{{Kind: 'p', At: 7, Size: 2}, {Kind: '.', Text: "a b", Size: 1}, {Kind: 0xff, Size: -1}}
	if s := trial.Nodes(l); s != "p2 .1a b \xff-1" || trial.Nodes(nil) != "" {
		t.Errorf("%q", s)
	}
}

func TestEvery(t *testing.T) {
	if s := trial.Nodes(trial.Every("p.", "a", 1)); s != "p0a p1a .0a .1a" {
		t.Errorf("%q", s)
	}
}

func TestWritten(t *testing.T) {
	if s := trial.Written("1p. e}\n}x"); s != "{h1{pa {e}\n}x" || trial.Written("") != "" {
		t.Errorf("%q", s)
	}
}

func TestEnds(t *testing.T) {
	for s, want := range map[string]string{"": "", "a": "", "{p{e}": "}", "{l{i": "}}", "{p}": "", "}": ""} {
		if got := trial.Ends(s); got != want {
			t.Errorf("Ends(%q) = %q", s, got)
		}
	}
}

// Each kind stands in the rich source, and in that of white.
func TestRich(t *testing.T) {
	for _, s := range []string{trial.Rich, trial.White} {
		for i := range len(trial.Kinds) {
			if name := lex.Name(trial.Kinds[i]); name == "" || !strings.Contains(s, "{"+name) {
				t.Errorf("%c", trial.Kinds[i])
			}
		}
		if _, at, e := tree.Parse(s); e != api.OK {
			t.Errorf("%d, %d", at, e)
		}
	}
}

func TestInP(t *testing.T) {
	l := trial.InP("ab", "", "c")
	if want := []api.Node{trial.Node('p', 5, 4), trial.Say("ab", 8), trial.Say("", 10), trial.Say("c", 10)}; !slices.Equal(l, want) || len(trial.InP()) != 1 {
		t.Errorf("%v", l)
	}
}

func TestSplit(t *testing.T) {
	l := []api.Node{trial.Node('k', 0, 1), trial.Node('p', 2, 4), trial.Node('e', 5, 2), trial.Say("abc", 8), trial.Say("d", 12)}
	want := []api.Node{trial.Node('k', 0, 1), trial.Node('p', 2, 5), trial.Node('e', 5, 3), trial.Say("ab", 8), trial.Say("c", 10), trial.Say("d", 12)}
	if got := trial.Split(l, 3, 2); !slices.Equal(got, want) || l[1].Size != 4 {
		t.Errorf("%v", got)
	}
}

func TestWrong(t *testing.T) {
	errors := 0
	for want, rows := range trial.Wrong() {
		errors++
		for _, l := range rows {
			if e := tree.Check(l); e != want {
				t.Errorf("Check(%q) = %d, want %d", trial.Shown(trial.Nodes(l)), e, want)
			}
		}
	}
	if errors != 3 {
		t.Errorf("%d errors", errors)
	}
}

func TestTrees(t *testing.T) {
	n := 0
	for l := range trial.Trees() {
		n++
		if e := tree.Check(l); e != api.OK {
			t.Errorf("%q: %d", trial.Nodes(l), e)
		}
	}
	if n < 3000 {
		t.Errorf("%d trees", n)
	}
	for most := 1; most < n; most = 2*most + 1 {
		so := 0
		for range trial.Trees() {
			so++
			if so == most {
				break
			}
		}
	}
}
