package norm_test

import (
	"math"
	"slices"
	"strconv"
	"strings"
	"testing"

	"stylus/api"
	"stylus/norm"
	"stylus/tree"
	"stylus/trial"
)

// blocks is what stands ahead of a flow's texts and behind them, of each kind of flow.
var blocks = [][2]string{
	{"{h1 ", "}"}, {"{h2 ", "}"}, {"{h3 ", "}"}, {"{p ", "}"}, {"{l {i ", "}}"}, {"{t {r {c ", "}}}"}, {"{p {n ", "}}"}, {"{l {i a{n ", "}}}"},
}

func must(t *testing.T, s string) []api.Node {
	t.Helper()
	l, at, e := tree.Parse(s)
	if e != api.OK {
		t.Fatalf("Parse(%q): %d, %d", trial.Shown(s), at, e)
	}
	return l
}

// normal is a tree, normalised.
func normal(t *testing.T, l []api.Node) []api.Node {
	t.Helper()
	n, e := norm.Of(l)
	if e != api.OK {
		t.Fatalf("Of(%q): %d", trial.Shown(trial.Nodes(l)), e)
	}
	return n
}

// checkSource asks that a source's tree, normalised, is the other one's, which is normalised.
func checkSource(t *testing.T, s, want string) {
	t.Helper()
	l, w := must(t, s), must(t, want)
	if n := normal(t, l); !tree.Same(n, w) {
		t.Fatalf("Of(%q) = %q, want %q", s, trial.Nodes(n), trial.Nodes(w))
	}
	if !norm.Is(w) || norm.Is(l) != tree.Same(l, w) {
		t.Fatalf("Is(%q) = %v, Is(%q) = %v", want, norm.Is(w), s, norm.Is(l))
	}
}

// checkNodes asks for nodes, places too.
func checkNodes(t *testing.T, l, want []api.Node) {
	t.Helper()
	if n := normal(t, l); !slices.Equal(n, want) {
		t.Fatalf("Of(%q) = %v, want %v", trial.Shown(trial.Nodes(l)), n, want)
	}
}

// checkWords asks for what the document's words say of a row, whether or not it may be; it is the error.
func checkWords(t *testing.T, l []api.Node) api.Errno {
	t.Helper()
	var want []api.Node
	err := tree.Check(l)
	if err == api.OK {
		want = normed(l)
	}
	if n, e := norm.Of(l); !slices.Equal(n, want) || e != err {
		t.Fatalf("Of(%v) = %v, %d, want %v, %d", l, n, e, want, err)
	}
	is := err == api.OK && tree.Same(l, want)
	if norm.Is(l) != is {
		t.Fatalf("Is(%q) = %v", trial.Nodes(l), !is)
	}
	return err
}

// P5.1: Of

func TestOfExamples(t *testing.T) {
	checkSource(t, "{p  a  b }", "{p a b}")
	checkSource(t, "{p a {e  b }c{n  x } d}", "{p a {e b }c{n x} d}")
	checkSource(t, "{p {e } {s a}}", "{p {e }{s a}}")
	checkSource(t, "{p a{e  }}", "{p a{e }}")
}

func TestOfNothing(t *testing.T) {
	for _, l := range [][]api.Node{nil, {}, must(t, trial.White)[:0], must(t, " \n\n ")} {
		if n, e := norm.Of(l); len(n) > 0 || e != api.OK || !norm.Is(l) {
			t.Errorf("%v, %d, %v", n, e, norm.Is(l))
		}
	}
}

func TestOfAll(t *testing.T) {
	checkSource(t, trial.White, "{h1 A b {n x{s  y}}{e }b}{h2 }{h3 }{p a b{e  c{s  d{n e} }}f}{k }"+
		"{l {i a{l {i b{n z}}{i }}{l {i c{s  d}}}}{i }}{t {r {c a b}{c {e x}}}{r {c }{c d}}}{p {s {e ! }}{e ?}}{p {n }}")
	checkWords(t, must(t, trial.White))
	checkWords(t, must(t, trial.Rich))
}

// Texts of white alone go, with what is in a flow, or with others of white beside.
func TestOfWhiteAlone(t *testing.T) {
	for _, b := range blocks {
		for _, s := range []string{"", " ", "\n", "  ", " \n \n\n", "\n "} {
			checkSource(t, b[0]+s+b[1], b[0]+b[1])
			checkSource(t, b[0]+s+"{e "+s+"}"+s+"{s "+s+"}"+s+b[1], b[0]+"{e }{s }"+b[1])
			checkSource(t, b[0]+s+"{e "+s+"{s "+s+"}}"+s+b[1], b[0]+"{e {s }}"+b[1])
		}
	}
	for _, s := range []string{" ", "\n", "\n  \n"} {
		checkNodes(t, trial.InP(s), trial.InP())
		checkNodes(t, trial.InP(s, s, s), trial.InP())
	}
}

func TestOfBeginAndEnd(t *testing.T) {
	for _, b := range blocks {
		for _, s := range []string{" ", "\n", "  ", " \n \n\n", "\n "} {
			checkSource(t, b[0]+s+"a"+b[1], b[0]+"a"+b[1])
			checkSource(t, b[0]+"a"+s+b[1], b[0]+"a"+b[1])
			checkSource(t, b[0]+s+"a"+s+"b"+s+b[1], b[0]+"a b"+b[1])
			checkSource(t, b[0]+s+"{e "+s+"a"+s+"}"+s+b[1], b[0]+"{e a}"+b[1])
			checkSource(t, b[0]+"{e "+s+"}"+s+"a"+s+"{e "+s+"}"+s+b[1], b[0]+"{e }a{e }"+b[1])
			checkSource(t, b[0]+"{s a{e "+s+"}}{e "+s+"b}"+s+b[1], b[0]+"{s a{e  }}{e b}"+b[1])
		}
	}
}

// Emphasis is no flow: what stands in it counts for what stands around.
func TestOfEmphasis(t *testing.T) {
	for _, k := range []string{"e", "s"} {
		k = "{" + k + " "
		checkSource(t, "{p a "+k+" b } c}", "{p a "+k+"b }c}")
		checkSource(t, "{p a"+k+" b} c}", "{p a"+k+" b} c}")
		checkSource(t, "{p a "+k+"}b}", "{p a "+k+"}b}")
		checkSource(t, "{p a "+k+" } b}", "{p a "+k+"}b}")
		checkSource(t, "{p a"+k+" } b}", "{p a"+k+" }b}")
		checkSource(t, "{p a"+k+"} b}", "{p a"+k+"} b}")
		checkSource(t, "{p a "+k+" } }", "{p a"+k+"}}")
		checkSource(t, "{p a "+k+"}}{p b}", "{p a"+k+"}}{p b}")
		checkSource(t, "{p a"+k+"b}c}", "{p a"+k+"b}c}")
	}
	checkSource(t, "{p {e a }{s  b }{e  c }}", "{p {e a }{s b }{e c}}")
	checkSource(t, "{p a {e {s \n b}  c} }", "{p a {e {s b} c}}")
}

// A space ahead of another flow, or behind one, counts for those of its own alone.
func TestOfAroundOtherFlows(t *testing.T) {
	checkSource(t, "{p a {n x} b}", "{p a {n x}b}")
	checkSource(t, "{p a{n x} b}", "{p a{n x} b}")
	checkSource(t, "{p a {n x}b}", "{p a {n x}b}")
	checkSource(t, "{p a {n x}}", "{p a{n x}}")
	checkSource(t, "{p a{n x} }", "{p a{n x}}")
	checkSource(t, "{p a {n x} }", "{p a{n x}}")
	checkSource(t, "{p {n x} b}", "{p {n x}b}")
	checkSource(t, "{p  {n x}b}", "{p {n x}b}")
	checkSource(t, "{p  {n x} }", "{p {n x}}")
	checkSource(t, "{p a {n } b}", "{p a {n }b}")
	checkSource(t, "{p a {e {n x} } b}", "{p a {e {n x}}b}")
	checkSource(t, "{p a{e {n x} } b}", "{p a{e {n x} }b}")
	checkSource(t, "{l{i a {l{i b}}}}", "{l {i a{l {i b}}}}")
	checkSource(t, "{l{i  {l{i b}}}}", "{l {i {l {i b}}}}")
	checkSource(t, "{l{i a {n x} {l{i b}}}}", "{l {i a{n x}{l {i b}}}}")
}

// A note's texts are apart from those around it, in both ways.
func TestOfNotes(t *testing.T) {
	checkSource(t, "{p a{n  x }b}", "{p a{n x}b}")
	checkSource(t, "{p a {n  x} b}", "{p a {n x}b}")
	checkSource(t, "{p a {n  x  y } b}", "{p a {n x y}b}")
	checkSource(t, "{p {n x  {e  y } } b}", "{p {n x {e y}}b}")
	checkSource(t, "{p {n  }b}", "{p {n }b}")
	checkSource(t, "{p a{e b {n  x } c} }", "{p a{e b {n x}c}}")
	checkSource(t, "{p {e {n  x } c}{s  d}}", "{p {e {n x}c}{s  d}}")
	checkSource(t, "{p {n x }}{p {n  y }}", "{p {n x}}{p {n y}}")
	checkSource(t, "{h1 a{n x {s  y}}{e  b}}", "{h1 a{n x {s y}}{e  b}}")
}

// An item's texts are apart from those of its lists' items, and of those ahead and behind.
func TestOfItems(t *testing.T) {
	checkSource(t, "{l{i  a {l{i  b }{i  c }}}{i  d }}", "{l {i a{l {i b}{i c}}}{i d}}")
	checkSource(t, "{l{i a {l{i  b{n  x } }}{l{i {e  } c}}}}", "{l {i a{l {i b{n x}}}{l {i {e }c}}}}")
	checkSource(t, "{l{i{e a }{l{i b}}}{i c}}", "{l {i {e a}{l {i b}}}{i c}}")
	checkSource(t, "{l{i \n{l{i \n{l{i \n}}}}}}", "{l {i {l {i {l {i }}}}}}")
}

func TestOfCells(t *testing.T) {
	checkSource(t, "{t{r{c a }{c  b }}{r{c}{c\n\n}}}", "{t {r {c a}{c b}}{r {c }{c }}}")
	checkSource(t, "{t{r{c {e  a } }{c {s } b}}}", "{t {r {c {e a}}{c {s }b}}}")
}

// Text nodes that stand side by side become one, those too that do so when others are gone.
func TestOfSideBySide(t *testing.T) {
	for _, x := range []struct {
		texts []string
		want  string
	}{
		{[]string{"a", "b"}, "ab"},
		{[]string{"a", " b"}, "a b"},
		{[]string{"a ", "b"}, "a b"},
		{[]string{"a ", " b"}, "a b"},
		{[]string{"a \n", "\n b"}, "a b"},
		{[]string{"a", " ", "b"}, "a b"},
		{[]string{"a", "\n", "  ", "\n", "b", "c"}, "a bc"},
		{[]string{"a ", "  ", "b"}, "a b"},
		{[]string{"ab", "cd", "e f"}, "abcde f"},
		{[]string{"a", " "}, "a"},
		{[]string{"a ", " ", "\n"}, "a"},
		{[]string{"a b ", "c"}, "a b c"},
	} {
		checkNodes(t, trial.InP(x.texts...), trial.InP(x.want))
	}
	checkNodes(t, trial.InP(" ", "a"), []api.Node{trial.Node('p', 5, 2), trial.Say("a", 9)})
	checkNodes(t, trial.InP("\n", "  ", " a", " ", "b"), []api.Node{trial.Node('p', 5, 2), trial.Say("a b", 12)})
}

// Text nodes of unlike nodes stay apart, with whatever is between; so do those between which a node stands.
func TestOfNotSideBySide(t *testing.T) {
	checkSource(t, "{p a{e b}c}", "{p a{e b}c}")
	checkSource(t, "{p {e a}b}", "{p {e a}b}")
	checkSource(t, "{p a{e }b}", "{p a{e }b}")
	checkSource(t, "{p a{e  }b}", "{p a{e  }b}")
	checkSource(t, "{p {e {s a}}b}", "{p {e {s a}}b}")
	checkSource(t, "{p {e a}{e b}}", "{p {e a}{e b}}")
	checkSource(t, "{p a}{p b}", "{p a}{p b}")
	l := []api.Node{trial.Node('p', 0, 6), trial.Node('e', 3, 3), trial.Say("a", 6), trial.Say("b ", 7), trial.Say(" c", 10), trial.Say("d", 12)}
	checkNodes(t, l, []api.Node{trial.Node('p', 0, 4), trial.Node('e', 3, 2), trial.Say("ab ", 6), trial.Say("cd", 11)})
}

// A space goes, or stays, by what stands ahead, and behind, in other nodes of the flow.
func TestOfSideBySideWithin(t *testing.T) {
	l := []api.Node{trial.Node('p', 0, 7), trial.Say("a", 3), trial.Say(" ", 4), trial.Node('e', 5, 3), trial.Say("\n", 8), trial.Say(" b ", 9), trial.Say(" ", 13)}
	checkNodes(t, l, []api.Node{trial.Node('p', 0, 4), trial.Say("a ", 3), trial.Node('e', 5, 2), trial.Say("b", 10)})
	l[6].Text = " c"
	checkNodes(t, l, []api.Node{trial.Node('p', 0, 5), trial.Say("a ", 3), trial.Node('e', 5, 2), trial.Say("b ", 10), trial.Say("c", 14)})
}

// The Sizes of all around are less by what went.
func TestOfSizes(t *testing.T) {
	for _, x := range [][2]string{
		{"{p a{e  {s  } }}{k}", "p4 .1a e2 s1 k1"},
		{"{l{i {l{i {e {n \n} } }}}}", "l6 i5 l4 i3 e2 n1"},
		{"{t{r{c {e \n} }{c  }}{r{c a}{c}}}", "t9 r4 c2 e1 c1 r4 c2 .1a c1"},
		{"{h1  \n}{p {e  } {s  } \n}{h2 a}", "11 p3 e1 s1 22 .1a"},
	} {
		if got := trial.Nodes(normal(t, must(t, x[0]))); got != x[1] {
			t.Errorf("Of(%q) = %q, want %q", x[0], got, x[1])
		}
	}
}

// A text node's place is that of its first byte that stays.
func TestOfPlaces(t *testing.T) {
	for _, x := range []struct{ s, want string }{
		{"{p a}", "3a"},
		{"{p  a}", "4a"},
		{"{p \n \na b}", "6a b"},
		{"{p \n  ab  {e  c}}", "6ab  14c"},
		{"{p a{e  \n b}}", "3a 7 b"},
		{"{p a {e  \n b}}", "3a  11b"},
		{"{p a {n  x } {e \n b}}", "3a  9x 18b"},
		{"{p a{n \n x }  b}", "3a 9x 12 b"},
		{"{l{i   {l{i  b{e  } }}}}", "13b"},
		{"{p {e \n} \n{s a}\n}", "13a"},
	} {
		var got []string
		for _, y := range normal(t, must(t, x.s)) {
			if y.Kind == '.' {
				got = append(got, strconv.Itoa(y.At)+y.Text)
			}
		}
		if s := strings.Join(got, " "); s != x.want {
			t.Errorf("Of(%q): %q, want %q", x.s, s, x.want)
		}
	}
}

// Places are not asked whether they are any: all other nodes have theirs still, and texts are as far on as what went ahead.
func TestOfAnyPlaces(t *testing.T) {
	for _, at := range []int{0, -1, -9, 1 << 40, math.MaxInt - 5, math.MinInt} {
		l := []api.Node{trial.Node('p', at, 5), trial.Say("  a", at), trial.Say("b ", -at), trial.Node('e', at+1, 2), trial.Say(" ", at)}
		checkNodes(t, l, []api.Node{trial.Node('p', at, 3), trial.Say("ab", at+2), trial.Node('e', at+1, 1)})
	}
	far := normal(t, trial.InP(strings.Repeat("\n", 5), " a"))
	if far[1].At != 14 {
		t.Errorf("%v", far)
	}
	if n, e := norm.Of([]api.Node{trial.Node('p', 0, 2), trial.Say("  a", math.MaxInt)}); len(n) != 2 || n[1].Text != "a" || e != api.OK {
		t.Errorf("%v, %d", n, e)
	}
}

// Each byte that is not white stays as it is.
func TestOfEachByte(t *testing.T) {
	for i := range 256 {
		b := string([]byte{byte(i)})
		if tree.Check(trial.InP(b)) != api.OK {
			for _, s := range []string{b, "a" + b, " " + b + " "} {
				if n, e := norm.Of(trial.InP(s)); n != nil || e != api.ErrForm || norm.Is(trial.InP(s)) {
					t.Errorf("%q: %v, %d", s, n, e)
				}
			}
			continue
		}
		want := "a" + b + "b" + b + b + "c"
		if b == " " || b == "\n" {
			want = "a b c"
		}
		checkNodes(t, trial.InP("a"+b+"b"+b+b+"c"), trial.InP(want))
	}
}

// Of a row that is no tree that may be there is the error, and nothing else, even if it could be but for its white.
func TestOfWrong(t *testing.T) {
	for want, rows := range trial.Wrong() {
		for _, l := range rows {
			if n, e := norm.Of(l); n != nil || e != want {
				t.Errorf("Of(%q) = %v, %d, want %d", trial.Shown(trial.Nodes(l)), n, e, want)
			}
			if norm.Is(l) {
				t.Errorf("Is(%q)", trial.Shown(trial.Nodes(l)))
			}
		}
	}
}

func TestOfLargest(t *testing.T) {
	checkNodes(t, trial.InP(slices.Repeat([]string{" a"}, 1999)...), []api.Node{trial.Node('p', 5, 2), trial.Say(strings.Repeat("a ", 1998)+"a", 9)})
	checkNodes(t, trial.InP(slices.Repeat([]string{"\n"}, 1999)...), trial.InP())
	long := strings.Repeat(" ab\n \n", 200000)
	checkNodes(t, trial.InP(long[2:], "a \n"), trial.InP("b"+strings.Repeat(" ab", 199999)+" a"))
	checkNodes(t, trial.InP(long[2:], long, " a"), trial.InP("b"+strings.Repeat(" ab", 399999)+" a"))
	deep := strings.Repeat("{l{i  a ", 8)
	checkSource(t, deep+"{s {e  {n \n x } }b}"+trial.Ends(deep), strings.Repeat("{l {i a", 7)+"{l {i a {s {e {n x}}b}"+trial.Ends(deep))
}

// P5.1, by the document's words

func TestOfShortSources(t *testing.T) {
	n := 0
	for _, x := range []struct {
		ahead, pieces string
		most          int
	}{
		{"{p", ". \n", 8},
		{"{p", "e. }", 7},
		{"{p.", "en. }", 6},
		{"{2", "sen. }", 5},
		{"{l{i", "li. e}", 5},
		{"{l{i. ", "lin. }", 5},
		{"{t{r{c", "c.e }", 5},
		{"", "pn. }", 6},
	} {
		for s := range trial.Texts(x.pieces, x.most) {
			s = x.ahead + trial.Written(s)
			if l, _, e := tree.Parse(s + trial.Ends(s)); e == api.OK {
				n++
				checkWords(t, l)
			}
		}
	}
	if n < 5000 {
		t.Errorf("%d trees", n)
	}
}

// Rows of nodes of all kinds of texts, side by side too; most of the rows may not be.
func TestOfShortRows(t *testing.T) {
	may := 0
	for _, x := range []struct {
		ahead, of []api.Node
		most      int
	}{
		{nil, slices.Concat(trial.Every("pen", "", 4)[1:], trial.Every(".", "a", 1)[1:], trial.Every(".", " ", 1)[1:]), 4},
		{[]api.Node{trial.Node('p', 0, 6)}, slices.Concat(trial.Every("en", "", 3)[1:], trial.Every(".", "a", 1)[1:], trial.Every(".", " ", 1)[1:]), 5},
		{[]api.Node{trial.Node('p', 0, 5)}, slices.Concat(trial.Every("ns", "", 2)[1:], trial.Every(".", "a ", 1)[1:], trial.Every(".", "\n b", 1)[1:], trial.Every(".", " \n", 1)[1:]), 4},
		{[]api.Node{trial.Node('l', 0, 6), trial.Node('i', 0, 5)}, slices.Concat(trial.Every("li", "", 3)[1:], trial.Every("e", "", 1)[1:], trial.Every(".", " a", 1)[1:], trial.Every(".", " ", 1)[1:]), 4},
	} {
		for l := range trial.Rows(x.of, x.most) {
			l = slices.Concat(x.ahead, l)
			for i := range l {
				l[i].At = 10 * i
			}
			if checkWords(t, l) == api.OK {
				may++
			}
		}
	}
	if may < 1000 {
		t.Errorf("%d rows may be", may)
	}
}

// A tree with one node for another, or one node left out.
func TestOfSpoiltRows(t *testing.T) {
	whole := must(t, trial.White)
	for i := range whole {
		checkWords(t, whole[:i])
		checkWords(t, slices.Delete(slices.Clone(whole), i, i+1))
		for _, kind := range []byte(trial.Kinds + ".q") {
			l := slices.Clone(whole)
			l[i].Kind = kind
			checkWords(t, l)
		}
		for size := range 5 {
			l := slices.Clone(whole)
			l[i].Size = size
			checkWords(t, l)
		}
	}
}

// A text that is parted says what it says whole, from the same place.
func TestOfPartedTexts(t *testing.T) {
	for _, s := range []string{trial.White, trial.Rich, "{p a b  c\n{e  d \n e} \n f}"} {
		l := must(t, s)
		want := normal(t, l)
		for i, x := range l {
			for at := 1; at < len(x.Text); at++ {
				checkNodes(t, trial.Split(l, i, at), want)
				if at > 1 {
					checkNodes(t, trial.Split(trial.Split(l, i, at), i, at-1), want)
				}
			}
		}
	}
}
