package trial_test

import (
	"slices"
	"strings"
	"testing"

	"stylus/api"
	"stylus/lex"
	"stylus/tree"
	"stylus/trial"
)

func TestTexts(t *testing.T) {
	for _, x := range []struct {
		alphabet string
		most     int
		want     []string
	}{
		{"ab", 2, []string{"", "a", "b", "aa", "ab", "ba", "bb"}},
		{"\xff\x00", 1, []string{"", "\xff", "\x00"}},
		{"ab", 0, []string{""}},
		{"", 3, []string{""}},
	} {
		if got := slices.Collect(trial.Texts(x.alphabet, x.most)); !slices.Equal(got, x.want) {
			t.Errorf("Texts(%q, %d): %q", x.alphabet, x.most, got)
		}
	}
}

func TestTextsLeft(t *testing.T) {
	n := 0
	for range trial.Texts("abc", 9) {
		n++
		if n == 5 {
			break
		}
	}
	if n != 5 {
		t.Errorf("%d texts", n)
	}
}

func TestRows(t *testing.T) {
	var got [][]int
	for l := range trial.Rows([]int{7, 300}, 2) {
		got = append(got, l)
		if len(got) == 6 {
			break
		}
	}
	if want := [][]int{{}, {7}, {300}, {7, 7}, {7, 300}, {300, 7}}; !slices.EqualFunc(got, want, slices.Equal) {
		t.Errorf("%v", got)
	}
	for l := range trial.Rows([]string{}, 3) {
		if len(l) > 0 {
			t.Errorf("%v", l)
		}
	}
}

func TestShown(t *testing.T) {
	if a, b := trial.Shown("ab"), trial.Shown(strings.Repeat("ab", 21)); a != "ab" || b != strings.Repeat("ab", 20) {
		t.Errorf("%q, %q", a, b)
	}
}

func TestNodes(t *testing.T) {
	l := []api.Node{{Kind: 'p', At: 7, Size: 2}, {Kind: '.', Text: "a b", Size: 1}, {Kind: 0xff, Size: -1}}
	if s := trial.Nodes(l); s != "p2 .1a b \xff-1" || trial.Nodes(nil) != "" {
		t.Errorf("%q", s)
	}
}

func TestEvery(t *testing.T) {
	if s := trial.Nodes(trial.Every("p.", "a", 1)); s != "p0a p1a .0a .1a" {
		t.Errorf("%q", s)
	}
}

func TestWritten(t *testing.T) {
	if s := trial.Written("1p. e}\n}x"); s != "{h1{pa {e}\n}x" || trial.Written("") != "" {
		t.Errorf("%q", s)
	}
}

func TestEnds(t *testing.T) {
	for s, want := range map[string]string{"": "", "a": "", "{p{e}": "}", "{l{i": "}}", "{p}": "", "}": ""} {
		if got := trial.Ends(s); got != want {
			t.Errorf("Ends(%q) = %q", s, got)
		}
	}
}

// Each kind stands in the rich source, and in that of white.
func TestRich(t *testing.T) {
	for _, s := range []string{trial.Rich, trial.White} {
		for i := range len(trial.Kinds) {
			if name := lex.Name(trial.Kinds[i]); name == "" || !strings.Contains(s, "{"+name) {
				t.Errorf("%c", trial.Kinds[i])
			}
		}
		if _, at, e := tree.Parse(s); e != api.OK {
			t.Errorf("%d, %d", at, e)
		}
	}
}

func TestInP(t *testing.T) {
	l := trial.InP("ab", "", "c")
	if want := []api.Node{trial.Node('p', 5, 4), trial.Say("ab", 8), trial.Say("", 10), trial.Say("c", 10)}; !slices.Equal(l, want) || len(trial.InP()) != 1 {
		t.Errorf("%v", l)
	}
}

func TestSplit(t *testing.T) {
	l := []api.Node{trial.Node('k', 0, 1), trial.Node('p', 2, 4), trial.Node('e', 5, 2), trial.Say("abc", 8), trial.Say("d", 12)}
	want := []api.Node{trial.Node('k', 0, 1), trial.Node('p', 2, 5), trial.Node('e', 5, 3), trial.Say("ab", 8), trial.Say("c", 10), trial.Say("d", 12)}
	if got := trial.Split(l, 3, 2); !slices.Equal(got, want) || l[1].Size != 4 {
		t.Errorf("%v", got)
	}
}

func TestWrong(t *testing.T) {
	errors := 0
	for want, rows := range trial.Wrong() {
		errors++
		for _, l := range rows {
			if e := tree.Check(l); e != want {
				t.Errorf("Check(%q) = %d, want %d", trial.Shown(trial.Nodes(l)), e, want)
			}
		}
	}
	if errors != 3 {
		t.Errorf("%d errors", errors)
	}
}

func TestTrees(t *testing.T) {
	n := 0
	for l := range trial.Trees() {
		n++
		if e := tree.Check(l); e != api.OK {
			t.Errorf("%q: %d", trial.Nodes(l), e)
		}
	}
	if n < 3000 {
		t.Errorf("%d trees", n)
	}
	for most := 1; most < n; most = 2*most + 1 {
		so := 0
		for range trial.Trees() {
			so++
			if so == most {
				break
			}
		}
	}
}

func TestAround(t *testing.T) {
	l, _, _ := tree.Parse("{p a{e b{n c}d}}{k}")
	for i, want := range []int{-1, 0, 0, 0, 0, 4, 0, -1} {
		if got := trial.Around(l, i, "pn"); got != want {
			t.Errorf("around %d: %d, want %d", i, got, want)
		}
	}
	if trial.Around(l, 5, "e") != 2 || trial.Around(l, 7, trial.Kinds) != -1 {
		t.Error("around")
	}
}

func TestFlowTexts(t *testing.T) {
	for s, want := range map[string][]string{
		"": nil, "{k}": nil, "{p}": {""}, "{p a{e b {n  c{s d}}}e}{h1 f}": {"ab e", " cd", "f"},
		"{l{i a{l{i b}}}{i}}": {"a", "b", ""}, "{t{r{c a}{c {e b}}}}": {"a", "b"},
	} {
		l, _, _ := tree.Parse(s)
		if got := trial.FlowTexts(l); !slices.Equal(got, want) {
			t.Errorf("%q: %q", s, got)
		}
	}
}

func TestToks(t *testing.T) {
	want := []api.Tok{{Kind: 2, Ch: 'p'}, {Kind: 1, Ch: 'a', At: 2}, {Kind: 1, Ch: ' ', At: 3}, {Kind: 2, Ch: 'e', At: 4}, {Kind: 3, Ch: '>', At: 6}, {Kind: 1, Ch: '<', At: 8}}
	if got := trial.Toks("<pa <e>><"); !slices.Equal(got, want) || len(trial.Toks("")) > 0 {
		t.Errorf("%v", got)
	}
	if s := trial.Told(append(want, api.Tok{Ch: 'x'}, api.Tok{Kind: 4, Ch: 0})); s != "<pa <e>><?x?\x00" || trial.Told(nil) != "" {
		t.Errorf("%q", s)
	}
}

// Each of them is a text's, and there are many, of each sort of token.
func TestTextToks(t *testing.T) {
	seen := map[string]bool{}
	for l := range trial.TextToks() {
		seen[trial.Told(l)] = true
	}
	for _, s := range []string{"", " ", "abB a", "<e1.>e", "ddD D", "THEbut ", "  <s>n"} {
		if !seen[s] {
			t.Errorf("%s does not come", s)
		}
	}
	if len(seen) < 5000 {
		t.Errorf("%d texts", len(seen))
	}
	for most := 1; most < 20000; most = 3*most + 1 {
		n := 0
		for range trial.TextToks() {
			n++
			if n == most {
				break
			}
		}
	}
}
