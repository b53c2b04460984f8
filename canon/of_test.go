package canon_test

import (
	"strings"
	"testing"

	"stylus/api"
	"stylus/canon"
	"stylus/norm"
	"stylus/tree"
	"stylus/trial"
)

// P6.2

func TestOfExamples(t *testing.T) {
	checkOf(t, "{p  a{e b} }", "{p a{e b}}\n")
	checkOf(t, "{k}{l{i}{i x}}", "{k }\n{l {i }{i x}}\n")
	checkOf(t, "", "")
	checkOfWrong(t, "x", 0, api.ErrForm)
}

// A source of white alone has no blocks.
func TestOfWhiteAlone(t *testing.T) {
	for _, s := range []string{" ", "\n", "  ", "\n\n", " \n \n\n ", strings.Repeat(" ", 8192)} {
		checkOf(t, s, "")
	}
	checkOfWrong(t, strings.Repeat(" ", 8193), 0, api.ErrBound)
}

func TestOfAll(t *testing.T) {
	checkOf(t, trial.White, "{h1 A b {n x{s  y}}{e }b}\n{h2 }\n{h3 }\n{p a b{e  c{s  d{n e} }}f}\n{k }\n"+
		"{l {i a{l {i b{n z}}{i }}{l {i c{s  d}}}}{i }}\n{t {r {c a b}{c {e x}}}{r {c }{c d}}}\n{p {s {e ! }}{e ?}}\n{p {n }}\n")
	checkOf(t, trial.Rich, blocksOf(normal(t, trial.Rich)))
}

// Behind each name stands one space, whatever stood there.
func TestOfNames(t *testing.T) {
	for _, x := range [][2]string{
		{"{h1#a}", "{h1 a}\n"}, {"{h2#a}", "{h2 a}\n"}, {"{h3#a}", "{h3 a}\n"}, {"{p#a}", "{p a}\n"}, {"{k#}", "{k }\n"},
		{"{l#{i#a}}", "{l {i a}}\n"}, {"{t#{r#{c#a}}}", "{t {r {c a}}}\n"}, {"{p#{n#a}}", "{p {n a}}\n"}, {"{p#{e#a}}", "{p {e a}}\n"}, {"{p#{s#a}}", "{p {s a}}\n"},
		{"{h1#}", "{h1 }\n"}, {"{h2#}", "{h2 }\n"}, {"{h3#}", "{h3 }\n"}, {"{p#}", "{p }\n"},
		{"{l#{i#}}", "{l {i }}\n"}, {"{t#{r#{c#}}}", "{t {r {c }}}\n"}, {"{p#{n#}}", "{p {n }}\n"}, {"{p#{e#}}", "{p {e }}\n"}, {"{p#{s#}}", "{p {s }}\n"},
	} {
		for _, white := range []string{"", " ", "\n", "  ", "\n \n"} {
			checkOf(t, strings.ReplaceAll(x[0], "#", white), x[1])
		}
	}
}

// A name, and what stands right behind it, are still told apart.
func TestOfTextsLikeNames(t *testing.T) {
	checkOf(t, "{ppp}{p p}{h1h2}{h11}", "{p pp}\n{p p}\n{h1 h2}\n{h1 1}\n")
	checkOf(t, "{p{n{e e}n}}{l{ii}}", "{p {n {e e}n}}\n{l {i i}}\n")
	checkOf(t, "{pe}{p{ee}}{p1}", "{p e}\n{p {e e}}\n{p 1}\n")
}

// LF stands behind each block, whatever stood between.
func TestOfBlocks(t *testing.T) {
	for _, white := range []string{"", " ", "\n", "\n\n", " \n \n"} {
		checkOf(t, white+"{p a}"+white+"{k}"+white+"{h1 b}"+white+"{l"+white+"{i}"+white+"{i c}"+white+"}"+white, "{p a}\n{k }\n{h1 b}\n{l {i }{i c}}\n")
		checkOf(t, "{t"+white+"{r"+white+"{c a}"+white+"{c}"+white+"}"+white+"{r{c}{c b}"+white+"}"+white+"}"+white+"{k"+white+"}", "{t {r {c a}{c }}{r {c }{c b}}}\n{k }\n")
	}
}

// A text that begins, or ends, with a space within a flow is written with it.
func TestOfSpaces(t *testing.T) {
	for _, x := range [][2]string{
		{"{p a{e  b}}", "{p a{e  b}}\n"},
		{"{p a{e\n\nb}}", "{p a{e  b}}\n"},
		{"{p a{e b }c}", "{p a{e b }c}\n"},
		{"{p a{e b} c}", "{p a{e b} c}\n"},
		{"{p a {e b}c}", "{p a {e b}c}\n"},
		{"{p a {e  b } c}", "{p a {e b }c}\n"},
		{"{p a{e  }b}", "{p a{e  }b}\n"},
		{"{p a{e }b}", "{p a{e }b}\n"},
		{"{p a{e  }}", "{p a{e }}\n"},
		{"{p {e a }{s  b }{e  c }}", "{p {e a }{s b }{e c}}\n"},
		{"{p a{s{e  b}}}", "{p a{s {e  b}}}\n"},
		{"{p a{s  {e  b}}}", "{p a{s  {e b}}}\n"},
		{"{h3\na\n{s\n b\n}\n}", "{h3 a {s b}}\n"},
	} {
		checkOf(t, x[0], x[1])
	}
}

// So is a text's end ahead of another flow, and its begin behind one.
func TestOfAroundOtherFlows(t *testing.T) {
	for _, x := range [][2]string{
		{"{p a {n x}b}", "{p a {n x}b}\n"},
		{"{p a{n x} b}", "{p a{n x} b}\n"},
		{"{p a {n x} b}", "{p a {n x}b}\n"},
		{"{p a {n  x }}", "{p a{n x}}\n"},
		{"{p  {n x} b}", "{p {n x}b}\n"},
		{"{p a{n x}}", "{p a{n x}}\n"},
		{"{l{i a {l{i b}}}}", "{l {i a{l {i b}}}}\n"},
		{"{l{i a{l{i b}} {l{i  c}}}}", "{l {i a{l {i b}}{l {i c}}}}\n"},
		{"{l{i a {n x} {l{i b}}}}", "{l {i a{n x}{l {i b}}}}\n"},
		{"{l{i  a {n x} b {l{i}}}}", "{l {i a {n x}b{l {i }}}}\n"},
		{"{t{r{c a }{c  b}}}", "{t {r {c a}{c b}}}\n"},
	} {
		checkOf(t, x[0], x[1])
	}
}

func TestOfWrong(t *testing.T) {
	for _, x := range []struct {
		s  string
		at int
		e  api.Errno
	}{
		{"{p a}x", 5, api.ErrForm}, {" \nx", 2, api.ErrForm}, {"}", 0, api.ErrForm}, {"{p", 2, api.ErrForm}, {"{p a", 4, api.ErrForm}, {"{k}}", 3, api.ErrForm},
		{"{q}", 0, api.ErrForm}, {"{p {h4}}", 3, api.ErrForm}, {"{p ~}", 3, api.ErrChar}, {"{p a\x00}", 4, api.ErrChar}, {"x~", 1, api.ErrChar},
		{"{l}", 2, api.ErrForm}, {"{p{p}}", 2, api.ErrForm}, {"{k a}", 3, api.ErrForm}, {"{t{r{c a}{c b}}{r{c c}}}", 22, api.ErrForm}, {"{p{n}{n}}", 5, api.ErrForm},
		{strings.Repeat("{l{i", 9) + strings.Repeat("}}", 9), 32, api.ErrDepth},
		{strings.Repeat("{k}", 2001), 6000, api.ErrBound},
		{"{p{n " + strings.Repeat("a", 61) + "}}", 5, api.ErrBound},
		{"{p " + strings.Repeat("a", 8189) + "}", 0, api.ErrBound},
		{"~" + strings.Repeat("a", 8192), 0, api.ErrBound},
	} {
		checkOfWrong(t, x.s, x.at, x.e)
	}
}

// A source that is not too long may have a canonical text that is: ErrBound at 0, behind all faults of the source.
func TestOfTooLong(t *testing.T) {
	checkOf(t, strings.Repeat("{k}", 1638), strings.Repeat("{k }\n", 1638))
	for _, n := range []int{1639, 1640, 1800, 1999, 2000} {
		blank := strings.Repeat("{k}", n)
		checkOfWrong(t, blank, 0, api.ErrBound)
		checkOfWrong(t, blank+" \n", 0, api.ErrBound)
		checkOfWrong(t, blank+"x", 3*n, api.ErrForm)
		checkOfWrong(t, blank+"~", 3*n, api.ErrChar)
		if n < 2000 {
			checkOfWrong(t, blank+"{l", 3*n+2, api.ErrForm)
		} else {
			checkOfWrong(t, blank+"{l", 3*n, api.ErrBound)
		}
	}
	items := "{l" + strings.Repeat("{i}", 1600) + "}"
	written := "{l " + strings.Repeat("{i }", 1600) + "}\n"
	checkOf(t, items, written)
	checkOf(t, items+"{p"+letters(1782)+"}", written+"{p "+letters(1782)+"}\n")
	checkOfWrong(t, items+"{p"+letters(1783)+"}", 0, api.ErrBound)
}

// A text of just MaxSource bytes is one, also of a source that is shorter; one of a byte more is too long, also of a source that is not.
func TestOfLongest(t *testing.T) {
	checkOf(t, "{p"+letters(8187)+"}", "{p "+letters(8187)+"}\n")
	checkOf(t, "{p "+letters(8187)+"}", "{p "+letters(8187)+"}\n")
	checkOf(t, "{p "+letters(8187)+"}\n", "{p "+letters(8187)+"}\n")
	checkOfWrong(t, "{p"+letters(8188)+"}", 0, api.ErrBound)
	checkOfWrong(t, "{p "+letters(8188)+"}", 0, api.ErrBound)
	checkOfWrong(t, "{p{e"+letters(8185)+"}}", 0, api.ErrBound)
	checkOf(t, "{p{e"+letters(8183)+"}}", "{p {e "+letters(8183)+"}}\n")
}

// letters is a text of so many bytes.
func letters(n int) string { return strings.Repeat("a", n) }

// A source that is too long has no canonical text, though it were short but for its white.
func TestOfShorter(t *testing.T) {
	checkOf(t, "{p a"+strings.Repeat(" ", 8186)+"b}", "{p a b}\n")
	checkOfWrong(t, "{p a"+strings.Repeat(" ", 8187)+"b}", 0, api.ErrBound)
}

// checkSource asks for what the document's words say of a source; it is the error.
func checkSource(t *testing.T, s string) api.Errno {
	t.Helper()
	l, at, e := tree.Parse(s)
	if e != api.OK {
		checkOfWrong(t, s, at, e)
		return e
	}
	n, _ := norm.Of(l)
	want := blocksOf(n)
	if len(want) > 8192 {
		checkOfWrong(t, s, 0, api.ErrBound)
		return api.ErrBound
	}
	if c, at, e := canon.Of(s); c != want || at != 0 || e != api.OK {
		t.Fatalf("Of(%q) = %q, %d, %d, want %q", trial.Shown(s), c, at, e, want)
	}
	return api.OK
}

func TestOfShortSources(t *testing.T) {
	got := map[api.Errno]int{}
	for _, x := range []struct {
		ahead, pieces string
		most          int
	}{
		{"", trial.Kinds + "}. ~", 3},
		{"", "pe.} ", 6},
		{"{p", "en. }", 6},
		{"{2.", "sen\n. }", 5},
		{"{l{i", "lie. }", 5},
		{"{t{r{c", "rc. }", 6},
	} {
		for s := range trial.Texts(x.pieces, x.most) {
			s = x.ahead + trial.Written(s)
			checkSource(t, s)
			got[checkSource(t, s+trial.Ends(s))]++
		}
	}
	if got[api.OK] < 3000 || got[api.ErrForm] < 3000 || got[api.ErrChar] == 0 {
		t.Errorf("%v", got)
	}
}

// Sources with a piece more, and with one byte less.
func TestOfSpoiltSources(t *testing.T) {
	for _, s := range []string{trial.White, trial.Rich} {
		for at := range len(s) {
			checkSource(t, s[:at])
			checkSource(t, s[at:])
			checkSource(t, s[:at]+s[at+1:])
			for _, piece := range []string{"}", "a", " ", "\n", "{e}", "{k}", "{e\n }", "~", "{"} {
				checkSource(t, s[:at]+piece+s[at:])
			}
		}
	}
}
