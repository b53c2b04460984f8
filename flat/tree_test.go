package flat_test

import (
	"math"
	"slices"
	"strings"
	"testing"

	"stylus/api"
	"stylus/flat"
	"stylus/norm"
	"stylus/tree"
	"stylus/trial"
)

// checkTree asks for the tree of some tokens, places too.
func checkTree(t *testing.T, l []api.Tok, want []api.Node) {
	t.Helper()
	n, e := flat.Tree(l)
	if !slices.Equal(n, want) || e != api.OK || !norm.Is(n) {
		t.Fatalf("Tree(%q) = %q, %d, want %q", trial.Shown(trial.Told(l)), trial.Shown(trial.Nodes(n)), e, trial.Shown(trial.Nodes(want)))
	}
}

// checkTreeWrong asks for the error of some tokens, and for nothing beside it.
func checkTreeWrong(t *testing.T, l []api.Tok, err api.Errno) {
	t.Helper()
	if n, e := flat.Tree(l); len(n) > 0 || e != err {
		t.Fatalf("Tree(%q) = %q, %d, want %d", trial.Shown(trial.Told(l)), trial.Shown(trial.Nodes(n)), e, err)
	}
}

// checkForm asks that tokens told by a text are no normalised tree's.
func checkForm(t *testing.T, told ...string) {
	t.Helper()
	for _, s := range told {
		checkTreeWrong(t, trial.Toks(s), api.ErrForm)
	}
}

// checkTreeOf asks for the kinds and sizes of the tree of tokens told by a text.
func checkTreeOf(t *testing.T, told, want string) {
	t.Helper()
	l := trial.Toks(told)
	n, e := flat.Tree(l)
	if trial.Nodes(n) != want || e != api.OK {
		t.Fatalf("Tree(%q) = %q, %d, want %q", trial.Shown(told), trial.Nodes(n), e, want)
	}
	checkTree(t, l, n)
}

// checkTreeWords asks for what the document's words say of tokens, whatever they are; it is the error.
func checkTreeWords(t *testing.T, l []api.Tok) api.Errno {
	t.Helper()
	want, err := treeOf(l)
	if err != api.OK {
		checkTreeWrong(t, l, err)
	} else {
		checkTree(t, l, want)
	}
	return err
}

// P7.2: Tree

func TestTreeExamples(t *testing.T) {
	checkTreeOf(t, "<pa<eb>e>p", "p4 .1a e2 .1b")
	checkTreeOf(t, "<k>k", "k1")
	checkForm(t, "<p >p", "<p>e")
}

func TestTreeNothing(t *testing.T) {
	for _, l := range [][]api.Tok{nil, {}, trial.Toks("<pa>p")[:0]} {
		checkTree(t, l, nil)
	}
}

func TestTreeEachKind(t *testing.T) {
	for _, x := range [][2]string{
		{"<1>1<2>2<3>3<p>p<k>k", "11 21 31 p1 k1"},
		{"<1a>1<2b>2<3c>3<pd>p", "12 .1a 22 .1b 32 .1c p2 .1d"},
		{"<p<e>e<s>s<n>n>p", "p4 e1 s1 n1"},
		{"<p<ea>e<sb>s<nc>n>p", "p7 e2 .1a s2 .1b n2 .1c"},
		{"<l<i>i>l<l<ia>i<i<l<ib>i>l>i>l", "l2 i1 l7 i2 .1a i4 l3 i2 .1b"},
		{"<t<r<c>c>r>t<t<r<ca>c<c>c>r<r<c>c<cb>c>r>t", "t3 r2 c1 t9 r4 c2 .1a c1 r4 c1 c2 .1b"},
		{"<l<ia<l<ib>i>l<l<i>i>l>i>l", "l8 i7 .1a l3 i2 .1b l2 i1"},
	} {
		checkTreeOf(t, x[0], x[1])
	}
}

// Characters side by side are one text, those that a node parts are two.
func TestTreeTexts(t *testing.T) {
	checkTreeOf(t, "<pa>p", "p2 .1a")
	checkTreeOf(t, "<pa b. c!>p", "p2 .1a b. c!")
	checkTreeOf(t, "<pab<e>ecd<s>s<n>ne>p", "p7 .1ab e1 .1cd s1 n1 .1e")
	checkTreeOf(t, "<pa<e b>e c>p<1de>1", "p5 .1a e2 .1 b .1 c 12 .1de")
	for _, bytes := range []int{8192, 8193, 1000000} {
		s := strings.Repeat("a", bytes)
		checkTree(t, trial.Toks("<p"+s+">p"), []api.Node{trial.Node('p', 0, 2), trial.Say(s, 2)})
	}
}

// A node begins where its opening comes from, a text where its first character does; no other place counts.
func TestTreePlaces(t *testing.T) {
	l := []api.Tok{
		{Kind: 2, Ch: 'p', At: 50}, {Kind: 1, Ch: 'a', At: 7}, {Kind: 1, Ch: 'b', At: 9}, {Kind: 2, Ch: 'e', At: -3}, {Kind: 3, Ch: 'e', At: 4},
		{Kind: 1, Ch: 'c', At: math.MinInt}, {Kind: 3, Ch: 'p', At: math.MaxInt}, {Kind: 2, Ch: 'k', At: math.MaxInt}, {Kind: 3, Ch: 'k'},
	}
	want := []api.Node{trial.Node('p', 50, 4), trial.Say("ab", 7), trial.Node('e', -3, 1), trial.Say("c", math.MinInt), trial.Node('k', math.MaxInt, 1)}
	checkTree(t, l, want)
	for _, i := range []int{2, 4, 6, 8} {
		l[i].At = 1 << 40
		checkTree(t, l, want)
	}
}

// P7.2: ErrForm

func TestTreeUnpaired(t *testing.T) {
	checkForm(t, "<p", "<k", "<pa", "<p<e>e", "<p<e>p", "<p<e", "<p>p<p", "<l<i>i", "<l<i>l", "<k<k>k")
	checkForm(t, ">p", ">k", ">p<p", "<p>p>p", "<k>k>k", "<pa>p>p", "<p>e>p", "<p<e>e>e>p", ">p>p", "a>p")
	checkForm(t, "<p>1", "<1>2", "<p>k", "<k>p", "<p<e>s>p", "<p<e<s>e>s>p", "<l<i>l>i", "<p<e>p>e", "<t<r<c>r>c>t", "<l<i>i>t")
}

// A tree's tokens but for one opening, or closing, or with one of another kind.
func TestTreeSpoiltPairs(t *testing.T) {
	l := tokensOf(normal(t, trial.Rich))
	for i, x := range l {
		checkTreeWords(t, l[:i])
		if x.Kind == api.TokChar {
			continue
		}
		checkTreeWrong(t, slices.Delete(slices.Clone(l), i, i+1), api.ErrForm)
		for _, kind := range []byte(trial.Kinds + ".q\x00") {
			other := slices.Clone(l)
			other[i].Ch = kind
			if kind != x.Ch {
				checkTreeWrong(t, other, api.ErrForm)
			}
		}
		checkTreeWrong(t, slices.Insert(slices.Clone(l), i, x), api.ErrForm)
	}
}

// No token has another kind than the three.
func TestTreeKinds(t *testing.T) {
	for _, kind := range []int{0, 4, 5, -1, -2, 255, 257, 258, 259, math.MaxInt, math.MinInt} {
		x := api.Tok{Kind: kind, Ch: 'p'}
		checkTreeWrong(t, []api.Tok{x}, api.ErrForm)
		for i := range 4 {
			l := trial.Toks("<pa>p")
			checkTreeWrong(t, slices.Insert(l, min(i, len(l)), x), api.ErrForm)
			if i < len(l) {
				l = trial.Toks("<pa>p")
				l[i].Kind = kind
				checkTreeWrong(t, l, api.ErrForm)
			}
		}
	}
}

// Each byte as an opening's and closing's kind, as a block, and within one.
func TestTreeEachByteAsKind(t *testing.T) {
	for i := range 256 {
		kind := byte(i)
		l := []api.Tok{{Kind: 2, Ch: kind}, {Kind: 3, Ch: kind}}
		if strings.IndexByte("123pk", kind) >= 0 {
			checkTree(t, l, []api.Node{trial.Node(kind, 0, 1)})
		} else {
			checkTreeWrong(t, l, api.ErrForm)
		}
		p := []api.Tok{{Kind: 2, Ch: 'p'}, l[0], l[1], {Kind: 3, Ch: 'p'}}
		if strings.IndexByte("esn", kind) >= 0 {
			checkTree(t, p, []api.Node{trial.Node('p', 0, 2), trial.Node(kind, 0, 1)})
		} else {
			checkTreeWrong(t, p, api.ErrForm)
		}
		l = []api.Tok{l[0], {Kind: 1, Ch: 'a'}, l[1]}
		if strings.IndexByte("123p", kind) >= 0 {
			checkTree(t, l, []api.Node{trial.Node(kind, 0, 2), trial.Say("a", 0)})
		} else {
			checkTreeWrong(t, l, api.ErrForm)
		}
		checkTreeWrong(t, []api.Tok{{Kind: 2, Ch: kind}}, api.ErrForm)
		checkTreeWrong(t, []api.Tok{{Kind: 3, Ch: kind}}, api.ErrForm)
	}
}

// Each byte as a character: those of the repertoire may be, at a flow's begin, within and at its end, but for the space.
func TestTreeEachByteAsCharacter(t *testing.T) {
	const repertoire = "abcdefghijklmnopqrstuvwxyzABCDEFGHIJKLMNOPQRSTUVWXYZ0123456789.,;:!?'\"-()/"
	for i := range 256 {
		x := api.Tok{Kind: 1, Ch: byte(i)}
		for at := range 4 {
			l := slices.Insert([]api.Tok{{Kind: 2, Ch: 'p'}, {Kind: 1, Ch: 'a'}, {Kind: 1, Ch: 'b'}, {Kind: 3, Ch: 'p'}}, at, x)
			s := slices.Insert([]byte("ab"), max(at-1, 0), x.Ch)
			may := at > 0 && (strings.IndexByte(repertoire, x.Ch) >= 0 || x.Ch == ' ' && at == 2)
			if may {
				checkTree(t, l, []api.Node{trial.Node('p', 0, 2), trial.Say(string(s), 0)})
			} else {
				checkTreeWrong(t, l, api.ErrForm)
			}
		}
		checkTreeWrong(t, []api.Tok{x}, api.ErrForm)
	}
	checkForm(t, "<pa\x00 b>p", "<p\x00>p", "<pa \x00>p", "<p\x00 >p")
}

// Spaces where a normalised tree has none: at a flow's begin and end, and behind a space of the same flow.
func TestTreeSpaces(t *testing.T) {
	for _, x := range [][2]string{
		{"<1", ">1"}, {"<2", ">2"}, {"<3", ">3"}, {"<p", ">p"}, {"<l<i", ">i>l"}, {"<t<r<c", ">c>r>t"}, {"<p<n", ">n>p"}, {"<l<ia<n", ">n>i>l"},
	} {
		for _, s := range []string{"a", "a b", "a<e b>e", "a <eb>e", "<ea>e b", "<ea >eb", "a<e >eb", "a<s<e >e>sb"} {
			if _, e := flat.Tree(trial.Toks(x[0] + s + x[1])); e != api.OK {
				t.Errorf("%q: %d", x[0]+s+x[1], e)
			}
		}
		for _, s := range []string{" ", "  ", " a", "a ", "a  b", "a  ", "  a", "a <e b>e", "<e a>e", " <ea>e", "<ea >e", "<ea>e ", "<ea >e b", "a<e >e", "<e >e", "<e >ea", "a<e >e b", "a <e >eb", "a<e  >eb", "a <s<e b>e>s", "<s<ea >e>s"} {
			checkForm(t, x[0]+s+x[1])
			checkForm(t, x[0]+strings.ReplaceAll(s, " ", "\n")+x[1])
		}
		checkForm(t, x[0]+"a\nb"+x[1], x[0]+"a \nb"+x[1], x[0]+"a\n b"+x[1])
	}
}

// A flow that stands in another one has spaces of its own.
func TestTreeSpacesOfOtherFlows(t *testing.T) {
	checkTreeOf(t, "<pa <nx>nb>p", "p5 .1a  n2 .1x .1b")
	checkTreeOf(t, "<pa<nx>n b>p", "p5 .1a n2 .1x .1 b")
	checkTreeOf(t, "<pa<nx>n>p<pb>p", "p4 .1a n2 .1x p2 .1b")
	checkTreeOf(t, "<pa <n>nb>p", "p4 .1a  n1 .1b")
	checkTreeOf(t, "<pa<e <nx y>n>eb>p", "p7 .1a e4 .1  n2 .1x y .1b")
	checkForm(t, "<pa <nx>n b>p", "<pa <nx>n>p", "<p<nx>n b>p", "<pa<n x>nb>p", "<pa<nx >nb>p", "<pa <n >nb>p", "<pa<nx>n >p", "<p <nx>nb>p", "<pa<e <nx>n>e b>p")
	checkForm(t, "<l<ia <l<ib>i>l>i>l", "<l<ia<l<i b>i>l>i>l", "<l<ia<l<ib >i>l>i>l", "<l<ia >i<ib>i>l", "<l<ia>i<i b>i>l", "<l<i <l<ib>i>l>i>l")
	checkForm(t, "<t<r<ca >c<cb>c>r>t", "<t<r<ca>c<c b>c>r>t", "<t<r<c >c<cb>c>r>t", "<pa >p<pb>p", "<pa>p<p b>p", "<1a>1<2 >2")
}

// Where no text may stand no character does, spaces too.
func TestTreeCharactersOutsideFlows(t *testing.T) {
	for _, s := range []string{"a", " ", "\n", "ab"} {
		checkForm(t, s, s+"<k>k", "<k>k"+s, "<p>p"+s+"<p>p", "<k"+s+">k", "<l"+s+"<i>i>l", "<l<i>i"+s+">l", "<t"+s+"<r<c>c>r>t", "<t<r"+s+"<c>c>r>t", "<t<r<c>c"+s+">r>t", "<t<r<c>c>r"+s+">t", "<l<ia<l"+s+"<ib>i>l>i>l", "<l<ia<l<ib>i>l"+s+">i>l", "<l<ia<l<ib>i"+s+">l>i>l")
	}
}

// What may not stand where it does, or has not what it must have.
func TestTreeNoTree(t *testing.T) {
	checkForm(t, "<p<p>p>p", "<p<1>1>p", "<e>e", "<i>i", "<n>n", "<c>c", "<r<c>c>r", "<k<p>p>k", "<p<k>k>p", "<p<l<i>i>l>p", "<l<p>p>l", "<i<l>l>i")
	checkForm(t, "<l>l", "<t>t", "<t<r>r>t", "<t<r<c>c>r<r>r>t", "<t<r<c>c<c>c>r<r<c>c>r>t", "<t<r<c>c>r<r<c>c<c>c>r>t", "<t<c>c>t", "<l<l<i>i>l>l")
	checkForm(t, "<p<e<e>e>e>p", "<p<s<e<s>s>e>s>p", "<p<n<n>n>n>p", "<p<n>n<n>n>p", "<p<e<n>n>e<n>n>p", "<t<r<c<n>n>c>r>t", "<l<i<l<i>i>la>i>l", "<l<i<l<i>i>l<e>e>i>l")
	row := func(n int) string { return "<t<r" + strings.Repeat("<c>c", n) + ">r>t" }
	checkTreeOf(t, row(8), "t10 r9"+strings.Repeat(" c1", 8))
	checkForm(t, row(9))
	checkForm(t, "<.>.", "<p<.>.>p", "<p<.a>.>p", "<pa<.>.>p")
}

// P7.2: ErrDepth, ErrBound

// listsOf is the tokens of lists within lists, so many, around some others.
func listsOf(n int, inner string) []api.Tok {
	return trial.Toks(strings.Repeat("<l<i", n) + inner + strings.Repeat(">i>l", n))
}

func TestTreeDeepest(t *testing.T) {
	for _, inner := range []string{"", "a", "a b", "<e<s<na>n>s>e"} {
		checkTree(t, listsOf(8, inner), may(t, listsOf(8, inner)))
		checkTreeWrong(t, listsOf(9, inner), api.ErrDepth)
		checkTreeWrong(t, listsOf(20, inner), api.ErrDepth)
	}
	checkTreeWrong(t, listsOf(100000, "a"), api.ErrDepth)
	checkTreeWrong(t, slices.Concat(trial.Toks("<pa>p"), listsOf(9, "a"), trial.Toks("<k>k")), api.ErrDepth)
}

// may is the tree of tokens that some normalised tree has, by the document's words.
func may(t *testing.T, l []api.Tok) []api.Node {
	t.Helper()
	n, e := treeOf(l)
	if e != api.OK {
		t.Fatalf("%q: %d", trial.Told(l), e)
	}
	return n
}

func TestTreeLargest(t *testing.T) {
	k := trial.Toks("<k>k")
	checkTree(t, slices.Repeat(k, 2000), slices.Repeat([]api.Node{trial.Node('k', 0, 1)}, 2000))
	checkTreeWrong(t, slices.Repeat(k, 2001), api.ErrBound)
	checkTreeWrong(t, slices.Repeat(k, 200000), api.ErrBound)
	many := func(n int) []api.Tok { return trial.Toks("<p" + strings.Repeat("<e>e", n-3) + "ab c<s>s>p") }
	if n, e := flat.Tree(many(1999)); len(n) != 1999 || n[1997].Text != "ab c" || n[0].Size != 1999 || e != api.OK {
		t.Errorf("%d, %d", len(n), e)
	}
	if n, e := flat.Tree(many(2000)); len(n) != 2000 || e != api.OK {
		t.Errorf("%d, %d", len(n), e)
	}
	checkTreeWrong(t, many(2001), api.ErrBound)
}

// noteOf is the tokens of a note of so many bytes, in two texts.
func noteOf(bytes int) string {
	return "<p<n" + strings.Repeat("a", bytes-3) + "<e bc>e>n>p"
}

func TestTreeLongestNote(t *testing.T) {
	checkTree(t, trial.Toks(noteOf(60)), may(t, trial.Toks(noteOf(60))))
	checkTreeWrong(t, trial.Toks(noteOf(61)), api.ErrBound)
	checkTreeWrong(t, trial.Toks(noteOf(6100)), api.ErrBound)
	checkTreeOf(t, "<p<n"+strings.Repeat("a", 60)+">n>p", "p3 n2 .1"+strings.Repeat("a", 60))
	checkTreeWrong(t, trial.Toks("<p<n"+strings.Repeat("a", 61)+">n>p"), api.ErrBound)
}

// Tokens that no normalised tree has, were it ever so deep and large, are ErrForm; too deep goes ahead of too large.
func TestTreeSeveralErrors(t *testing.T) {
	deep, many, long := listsOf(9, "a"), slices.Repeat(trial.Toks("<k>k"), 2001), trial.Toks(noteOf(61))
	for _, x := range []struct {
		l []api.Tok
		e api.Errno
	}{
		{deep, api.ErrDepth}, {many, api.ErrBound}, {long, api.ErrBound},
		{slices.Concat(deep, many), api.ErrDepth}, {slices.Concat(many, deep), api.ErrDepth}, {slices.Concat(long, deep), api.ErrDepth}, {slices.Concat(many, long), api.ErrBound},
	} {
		checkTreeWrong(t, x.l, x.e)
		for _, s := range []string{"<p", "<p >p", "<p a>p", "<pa >p", "<pa  b>p", "<pa\nb>p", "<p~>p", "<p>e", ">p", "<l>l", "<p<p>p>p", "<q>q", " ", "a", "<pa<e >e>p", "<t<r>r>t"} {
			checkTreeWrong(t, slices.Concat(x.l, trial.Toks(s)), api.ErrForm)
			checkTreeWrong(t, slices.Concat(trial.Toks(s), x.l), api.ErrForm)
		}
		checkTreeWrong(t, slices.Concat(x.l, []api.Tok{{}}), api.ErrForm)
		checkTreeWrong(t, slices.Concat(x.l, trial.Toks("<pa <nb c>n<ed>e>p")), x.e)
		checkTreeWrong(t, x.l[1:], api.ErrForm)
		checkTreeWrong(t, x.l[:len(x.l)-1], api.ErrForm)
	}
	for _, inner := range []string{" ", " a", "a ", "a  b", "a\nb", "a<e >e", "~"} {
		checkTreeWrong(t, listsOf(9, inner), api.ErrForm)
		checkTreeWrong(t, trial.Toks("<p<n"+inner+strings.Repeat("b", 61)+inner+">n>p"), api.ErrForm)
	}
}

// However many openings there are, the answer comes.
func TestTreeHuge(t *testing.T) {
	const n = 300000
	for _, x := range []struct{ kind, inner string }{{"p", ""}, {"e", "a"}, {"i", " "}, {"l", ""}, {"q", ""}} {
		open, shut := strings.Repeat("<"+x.kind, n), strings.Repeat(">"+x.kind, n)
		checkForm(t, open+x.inner, open+x.inner+shut, shut, x.inner+shut, open+shut[2:], open+shut+">"+x.kind, "<p"+open+x.inner+shut+">p")
	}
	checkForm(t, strings.Repeat("a", n), "<p"+strings.Repeat("a ", n)+">p", "<p"+strings.Repeat("<e a>e", n)+">p")
}

// P7.2, by the document's words

// shortToks is all tokens told by rows of at most so many of some.
func shortToks(told string, most int, ask func(l []api.Tok)) {
	for l := range trial.Rows(trial.Toks(told), most) {
		for i := range l {
			l[i].At = 3 * i
		}
		ask(l)
	}
}

func TestTreeShortRows(t *testing.T) {
	got := map[api.Errno]int{}
	for _, x := range []struct {
		ahead, of, behind string
		most              int
	}{
		{"", "<p>p<e>ea ", "", 6},
		{"<p", "<e>e<n>na ", ">p", 6},
		{"<1a", "<e>e<s>s ", "b>1", 6},
		{"<l<i", "<l>l<i>ia ", ">i>l", 6},
		{"<t<r<c", "<r>r<c>ca", ">c>r>t", 6},
		{"", "<p>p<k>k a\n~", "", 5},
		{"<p<n" + strings.Repeat("a", 58), "<e>eab ", ">n>p", 6},
		{strings.Repeat("<l<i", 8), "<l>l<i>ia", strings.Repeat(">i>l", 8), 6},
	} {
		ahead, behind := trial.Toks(x.ahead), trial.Toks(x.behind)
		shortToks(x.of, x.most, func(l []api.Tok) { got[checkTreeWords(t, slices.Concat(ahead, l, behind))]++ })
	}
	if got[api.OK] < 500 || got[api.ErrForm] < 500 || got[api.ErrDepth] < 8 || got[api.ErrBound] < 50 {
		t.Errorf("%v", got)
	}
}

// written is the source of tokens, with a space behind each name.
func written(l []api.Tok) string {
	s := ""
	for _, x := range l {
		switch x.Kind {
		case api.TokOpen:
			s += "{" + string([]byte{x.Ch}) + " "
		case api.TokClose:
			s += "}"
		default:
			s += string([]byte{x.Ch})
		}
	}
	return s
}

// Of all short rows of tokens just those are a tree's that some normalised tree has.
func TestTreeJustThoseOfATree(t *testing.T) {
	for _, x := range []struct {
		of   string
		most int
	}{{"<p>p<e>ea ", 6}, {"<p>p<n>na ", 6}, {"<l>l<i>ia ", 6}, {"<t>t<r>r<c>c", 6}} {
		trees := map[string][]api.Node{}
		shortToks(x.of, x.most, func(l []api.Tok) {
			if n, _, e := tree.Parse(written(l)); e == api.OK {
				n, _ = norm.Of(n)
				trees[trial.Told(tokensOf(n))] = n
			}
		})
		n := 0
		shortToks(x.of, x.most, func(l []api.Tok) {
			want, ok := trees[trial.Told(l)]
			got, e := flat.Tree(l)
			if ok != (e == api.OK) || e != api.OK && e != api.ErrForm || !tree.Same(got, want) {
				t.Fatalf("Tree(%q) = %q, %d", trial.Told(l), trial.Nodes(got), e)
			}
			if ok {
				n++
			}
		})
		if n == 0 || n != len(trees) {
			t.Errorf("%q: %d of %d", x.of, n, len(trees))
		}
	}
}

// A tree's tokens with one left out, doubled, or another one for it, or ahead of it.
func TestTreeSpoiltRows(t *testing.T) {
	got := map[api.Errno]int{}
	others := append(trial.Toks("<p>p<e>e<n>n<i>i a\n~"), api.Tok{})
	for _, s := range []string{trial.White, trial.Rich} {
		l := tokensOf(normal(t, s))
		got[checkTreeWords(t, l)]++
		for i, x := range l {
			got[checkTreeWords(t, slices.Delete(slices.Clone(l), i, i+1))]++
			got[checkTreeWords(t, l[i:])]++
			for _, y := range append(others, x) {
				got[checkTreeWords(t, slices.Insert(slices.Clone(l), i, y))]++
				other := slices.Clone(l)
				other[i] = y
				got[checkTreeWords(t, other)]++
			}
		}
	}
	if got[api.OK] < 200 || got[api.ErrForm] < 1000 {
		t.Errorf("%v", got)
	}
}
