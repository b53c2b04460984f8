package flat_test

import (
	"math"
	"slices"
	"strings"
	"testing"

	"stylus/api"
	"stylus/flat"
	"stylus/norm"
	"stylus/tree"
	"stylus/trial"
)

func must(t *testing.T, s string) []api.Node {
	t.Helper()
	l, at, e := tree.Parse(s)
	if e != api.OK {
		t.Fatalf("Parse(%q): %d, %d", trial.Shown(s), at, e)
	}
	return l
}

// normal is a source's tree, normalised.
func normal(t *testing.T, s string) []api.Node {
	t.Helper()
	n, e := norm.Of(must(t, s))
	if e != api.OK {
		t.Fatalf("norm of %q: %d", trial.Shown(s), e)
	}
	return n
}

// checkOf asks for a tree's tokens, places too.
func checkOf(t *testing.T, n []api.Node, want []api.Tok) {
	t.Helper()
	if l, e := flat.Of(n); !slices.Equal(l, want) || e != api.OK {
		t.Fatalf("Of(%q) = %q, %d, want %q", trial.Shown(trial.Nodes(n)), trial.Shown(trial.Told(l)), e, trial.Shown(trial.Told(want)))
	}
}

// checkOfWrong asks for the error of a row of nodes, and for nothing beside it.
func checkOfWrong(t *testing.T, n []api.Node, err api.Errno) {
	t.Helper()
	if l, e := flat.Of(n); len(l) > 0 || e != err {
		t.Fatalf("Of(%q) = %q, %d, want %d", trial.Shown(trial.Nodes(n)), trial.Shown(trial.Told(l)), e, err)
	}
}

// checkSource asks for the tokens of a source's tree, normalised, but for their places.
func checkSource(t *testing.T, s, want string) {
	t.Helper()
	l, e := flat.Of(normal(t, s))
	if trial.Told(l) != want || e != api.OK {
		t.Fatalf("Of(%q) = %q, %d, want %q", trial.Shown(s), trial.Told(l), e, want)
	}
}

// checkOfWords asks for what the document's words say of a row, whether or not it may be; it is the error.
func checkOfWords(t *testing.T, n []api.Node) api.Errno {
	t.Helper()
	err := tree.Check(n)
	if err == api.OK && !norm.Is(n) {
		err = api.ErrArg
	}
	if err != api.OK {
		checkOfWrong(t, n, err)
	} else {
		checkOf(t, n, tokensOf(n))
	}
	return err
}

// P7.1: Of

func TestOfExamples(t *testing.T) {
	checkOf(t, normal(t, "{p a{e b}}"), []api.Tok{
		{Kind: 2, Ch: 'p', At: 0}, {Kind: 1, Ch: 'a', At: 3}, {Kind: 2, Ch: 'e', At: 4}, {Kind: 1, Ch: 'b', At: 7}, {Kind: 3, Ch: 'e', At: 7}, {Kind: 3, Ch: 'p', At: 7},
	})
	checkOf(t, normal(t, "{k}"), []api.Tok{{Kind: 2, Ch: 'k'}, {Kind: 3, Ch: 'k'}})
}

func TestOfNothing(t *testing.T) {
	for _, n := range [][]api.Node{nil, {}, must(t, trial.Rich)[:0], must(t, " \n\n ")} {
		checkOf(t, n, nil)
	}
}

// Each kind, with nothing in it, and with a text of one byte and of many.
func TestOfEachKind(t *testing.T) {
	for _, kinds := range []string{"1", "2", "3", "p", "k", "pe", "ps", "pn", "li", "trc", "lili", "1esn", "trcse"} {
		var n []api.Node
		open, shut := "", ""
		for i := range len(kinds) {
			n = append(n, trial.Node(kinds[i], 0, len(kinds)-i))
			open, shut = open+"<"+kinds[i:i+1], ">"+kinds[i:i+1]+shut
		}
		for _, s := range []string{"", "a", "a b.", strings.Repeat("ab ", 19) + "c"} {
			if s != "" && kinds == "k" {
				continue
			}
			l := slices.Clone(n)
			if s != "" {
				for i := range l {
					l[i].Size++
				}
				l = append(l, trial.Say(s, 0))
			}
			if got, e := flat.Of(l); trial.Told(got) != open+s+shut || e != api.OK {
				t.Errorf("%q: %q, %d", trial.Nodes(l), trial.Told(got), e)
			}
		}
	}
}

func TestOfAll(t *testing.T) {
	checkSource(t, trial.Rich, "<1A<nx<sy>s>nb>1<2>2<3>3<pa b<ec<sd<ne>n>s>ef>p<k>k<l<ia<l<ib<nz>n>i<i>i>l<l<ic<sd>s>i>l>i<i>i>l"+
		"<t<r<ca>c<cb<ex>e>c>r<r<c>c<cd>c>r>t<p<s<e!>e>s<e?>e>p")
	checkSource(t, trial.White, "<1A b <nx<s y>s>n<e>eb>1<2>2<3>3<pa b<e c<s d<ne>n >s>ef>p<k>k<l<ia<l<ib<nz>n>i<i>i>l<l<ic<s d>s>i>l>i<i>i>l"+
		"<t<r<ca b>c<c<ex>e>c>r<r<c>c<cd>c>r>t<p<s<e! >e>s<e?>e>p<p<n>n>p")
}

// An opening comes from its node's place, a byte of a text from as far behind the text's, a closing from where the token ahead of it does.
func TestOfPlaces(t *testing.T) {
	for _, x := range []struct {
		s    string
		want []int
	}{
		{"{p abc}", []int{0, 3, 4, 5, 5}},
		{"{p \n a b}", []int{0, 5, 6, 7, 7}},
		{"{p a \n b}", []int{0, 3, 4, 5, 5}},
		{" {k}\n{k}", []int{1, 1, 5, 5}},
		{"{p{e}{s {e}}}", []int{0, 2, 2, 5, 8, 8, 8, 8}},
		{"{p ab{n c}d}", []int{0, 3, 4, 5, 8, 8, 10, 10}},
		{"{h1a}{h2}\n{h3\nbc}", []int{0, 3, 3, 5, 5, 10, 14, 15, 15}},
		{"{l\n{i a{l {i b}}}\n{i}\n}", []int{0, 3, 6, 7, 10, 13, 13, 13, 13, 18, 18, 18}},
		{"{t{r{c ab}{c}} {r{c}{c x}}}", []int{0, 2, 4, 7, 8, 8, 10, 10, 10, 15, 17, 17, 20, 23, 23, 23, 23}},
	} {
		l, e := flat.Of(normal(t, x.s))
		var got []int
		for _, y := range l {
			got = append(got, y.At)
		}
		if !slices.Equal(got, x.want) || e != api.OK {
			t.Errorf("Of(%q): %v, %d, want %v", x.s, got, e, x.want)
		}
	}
}

// Places are not asked whether they are any.
func TestOfAnyPlaces(t *testing.T) {
	for _, at := range []int{0, -1, -9, 1 << 40, math.MaxInt - 5, math.MinInt} {
		checkOf(t, []api.Node{trial.Node('p', at, 4), trial.Say("ab", -at), trial.Node('e', 7, 2), trial.Say("cde", at), trial.Node('k', 3, 1)}, []api.Tok{
			{Kind: 2, Ch: 'p', At: at}, {Kind: 1, Ch: 'a', At: -at}, {Kind: 1, Ch: 'b', At: -at + 1}, {Kind: 2, Ch: 'e', At: 7},
			{Kind: 1, Ch: 'c', At: at}, {Kind: 1, Ch: 'd', At: at + 1}, {Kind: 1, Ch: 'e', At: at + 2}, {Kind: 3, Ch: 'e', At: at + 2}, {Kind: 3, Ch: 'p', At: at + 2},
			{Kind: 2, Ch: 'k', At: 3}, {Kind: 3, Ch: 'k', At: 3},
		})
	}
	if l, e := flat.Of([]api.Node{trial.Node('p', 0, 2), trial.Say("abc", math.MaxInt)}); len(l) != 5 || e != api.OK {
		t.Errorf("%v, %d", l, e)
	}
}

// Each byte that a normalised text may have is a token's.
func TestOfEachByte(t *testing.T) {
	for i := range 256 {
		b := string([]byte{byte(i)})
		n := trial.InP("a" + b + "b")
		switch {
		case tree.Check(n) != api.OK:
			checkOfWrong(t, n, api.ErrForm)
		case b == "\n":
			checkOfWrong(t, n, api.ErrArg)
		default:
			checkOf(t, n, []api.Tok{{Kind: 2, Ch: 'p', At: 5}, {Kind: 1, Ch: 'a', At: 8}, {Kind: 1, Ch: byte(i), At: 9}, {Kind: 1, Ch: 'b', At: 10}, {Kind: 3, Ch: 'p', At: 10}})
		}
	}
}

// P7.1: errors

func TestOfWrong(t *testing.T) {
	for want, rows := range trial.Wrong() {
		for _, n := range rows {
			checkOfWrong(t, n, want)
		}
	}
}

func TestOfNotNormalised(t *testing.T) {
	for _, texts := range [][]string{{" "}, {"\n"}, {" a"}, {"a "}, {"a\nb"}, {"a  b"}, {"a", "b"}, {"a", " b"}, {"a ", "b"}, {"a", " ", "b"}} {
		checkOfWrong(t, trial.InP(texts...), api.ErrArg)
	}
	for _, s := range []string{"{p  }", "{p  a}", "{p a }", "{p a {e  b}}", "{p {n x} a}", "{p a {n x}}", "{p {n  x}}", "{l {i a {l {i b}}}}", "{t {r {c a }{c }}}", "{p a{e  }}", "{h1 a }{k }", "{k }{h3 \n}", trial.White, trial.Rich} {
		checkOfWrong(t, must(t, s), api.ErrArg)
	}
}

// Check's error goes ahead of what is not normalised.
func TestOfSeveralErrors(t *testing.T) {
	for err, rows := range trial.Wrong() {
		for _, n := range rows {
			checkOfWrong(t, slices.Concat(trial.InP(" a"), n), err)
			checkOfWrong(t, slices.Concat(trial.InP("a", "b"), n), err)
		}
	}
	checkOfWrong(t, trial.InP(" ~"), api.ErrForm)
	checkOfWrong(t, trial.InP("a ", ""), api.ErrForm)
}

// lists is lists within lists, so many, with e, s, n in the innermost one's item, as deep as a tree may be.
func lists(n int) []api.Node {
	var l []api.Node
	kinds := strings.Repeat("li", n) + "esn"
	for i := range len(kinds) {
		l = append(l, trial.Node(kinds[i], i, len(kinds)-i+1))
	}
	return append(l, trial.Say("a", len(kinds)))
}

func TestOfDeepest(t *testing.T) {
	checkOf(t, lists(8), tokensOf(lists(8)))
	if l, _ := flat.Of(lists(8)); trial.Told(l) != strings.Repeat("<l<i", 8)+"<e<s<na>n>s>e"+strings.Repeat(">i>l", 8) {
		t.Errorf("%q", trial.Told(l))
	}
	checkOfWrong(t, lists(9), api.ErrDepth)
	e := slices.Repeat([]api.Node{trial.Node('e', 0, 0)}, 100000)
	for i := range e {
		e[i].Size = len(e) - i
	}
	checkOfWrong(t, e, api.ErrForm)
}

// As many nodes, and bytes of a note, as may be, and one more; a text that is no note's may be of any length.
func TestOfLargest(t *testing.T) {
	k := []api.Node{trial.Node('k', 4, 1)}
	checkOf(t, slices.Repeat(k, 2000), slices.Repeat([]api.Tok{{Kind: 2, Ch: 'k', At: 4}, {Kind: 3, Ch: 'k', At: 4}}, 2000))
	checkOfWrong(t, slices.Repeat(k, 2001), api.ErrBound)
	for _, bytes := range []int{59, 60, 61} {
		n := []api.Node{trial.Node('p', 0, 5), trial.Node('n', 0, 4), trial.Say("bc", 0), trial.Node('e', 0, 2), trial.Say(strings.Repeat("a", bytes-2), 0)}
		if bytes > 60 {
			checkOfWrong(t, n, api.ErrBound)
		} else {
			checkOf(t, n, tokensOf(n))
		}
	}
	for _, s := range []string{strings.Repeat("a", 8193), strings.Repeat("ab ", 300000) + "a"} {
		checkOf(t, trial.InP(s), tokensOf(trial.InP(s)))
	}
}

// P7.1, by the document's words

func TestOfShortRows(t *testing.T) {
	got := map[api.Errno]int{}
	for _, x := range []struct {
		ahead, of []api.Node
		most      int
	}{
		{nil, slices.Concat(trial.Every("pek", "", 3)[1:], trial.Every(".", "a", 1)[1:], trial.Every(".", " ", 1)[1:]), 4},
		{[]api.Node{trial.Node('2', 0, 5)}, slices.Concat(trial.Every("en", "", 3)[1:], trial.Every(".", "a", 1)[1:], trial.Every(".", " b", 1)[1:]), 4},
		{[]api.Node{trial.Node('l', 0, 6), trial.Node('i', 0, 5)}, slices.Concat(trial.Every("li", "", 3)[1:], trial.Every("s", "", 1)[1:], trial.Every(".", "a", 1)[1:]), 4},
		{nil, slices.Concat(trial.Every("trc", "", 4), trial.Every(".", "a", 1)[1:]), 4},
	} {
		for n := range trial.Rows(x.of, x.most) {
			n = slices.Concat(x.ahead, n)
			for i := range n {
				n[i].At = 10 * i
			}
			got[checkOfWords(t, n)]++
		}
	}
	if got[api.OK] < 200 || got[api.ErrArg] < 200 || got[api.ErrForm] < 200 {
		t.Errorf("%v", got)
	}
}

// A normalised tree with one node for another, or one left out.
func TestOfSpoiltRows(t *testing.T) {
	for _, s := range []string{trial.White, trial.Rich} {
		whole := normal(t, s)
		for i, x := range whole {
			checkOfWords(t, whole[:i])
			checkOfWords(t, whole[i:])
			checkOfWords(t, slices.Delete(slices.Clone(whole), i, i+1))
			for _, kind := range []byte(trial.Kinds + ".q") {
				n := slices.Clone(whole)
				n[i].Kind = kind
				checkOfWords(t, n)
			}
			for size := range 6 {
				n := slices.Clone(whole)
				n[i].Size = size
				checkOfWords(t, n)
			}
			for at := 1; at < len(x.Text); at++ {
				checkOfWrong(t, trial.Split(whole, i, at), api.ErrArg)
			}
		}
	}
}

// P7.3: Same

func TestSame(t *testing.T) {
	rich := tokensOf(normal(t, trial.Rich))
	other := slices.Clone(rich)
	for i := range other {
		other[i].At = math.MaxInt - 7*i
	}
	if !flat.Same(nil, nil) || !flat.Same(nil, []api.Tok{}) || !flat.Same(rich, rich) || !flat.Same(rich, other) || !flat.Same(other, rich) {
		t.Error("the same but for places")
	}
	for i := range rich {
		if flat.Same(rich[:i], rich) || flat.Same(rich, rich[:i]) || !flat.Same(rich[:i], other[:i]) {
			t.Errorf("%d tokens", i)
		}
		was := other[i]
		for _, x := range []api.Tok{{Kind: was.Kind%3 + 1, Ch: was.Ch, At: rich[i].At}, {Kind: was.Kind + 4, Ch: was.Ch}, {Kind: -was.Kind, Ch: was.Ch}, {Kind: was.Kind, Ch: was.Ch ^ 0x80, At: rich[i].At}, {Kind: was.Kind, Ch: was.Ch ^ 1}} {
			other[i] = x
			if flat.Same(rich, other) || flat.Same(other, rich) {
				t.Errorf("%v for %v", x, was)
			}
		}
		other[i] = was
	}
}

// Tokens of any kind may be the same, those too that no tree has.
func TestSameShortRows(t *testing.T) {
	of := []api.Tok{{Kind: 1, Ch: 'p'}, {Kind: 2, Ch: 'p', At: 3}, {Kind: 2, Ch: 'p', At: -1}, {Kind: 3, Ch: 'p'}, {Kind: 3, Ch: 'q', At: 1}, {Ch: 'p'}, {}}
	rows := slices.Collect(trial.Rows(of, 3))
	for _, a := range rows {
		for _, b := range rows {
			if flat.Same(a, b) != same(a, b) {
				t.Fatalf("Same(%v, %v) = %v", a, b, !same(a, b))
			}
		}
	}
}
