package fore_test

import (
	"math"
	"slices"
	"strings"
	"testing"

	"stylus/api"
	"stylus/chunk"
	"stylus/flat"
	"stylus/fore"
	"stylus/trial"
)

// flow is what a test wants of one: its code, its depth, and its cells by their rules' Lefts.
type flow struct {
	code, depth int
	lefts       string
}

// list asks for the flows of a source, and whether the words say the same; it answers them.
func (a asked) list(s string, want ...flow) []api.Flow {
	a.Helper()
	got := a.has(trial.FlatOf(s))
	if !slices.EqualFunc(got, want, func(x api.Flow, y flow) bool {
		return x.Code == y.code && x.Depth == y.depth && x.Cells == a.cells(y.lefts)
	}) {
		a.Errorf("%s: %v, want %v", s, got, want)
	}
	return got
}

func TestExamples(t *testing.T) {
	a := ready(t, trial.Fores())
	a.list("{h1 B}{p but a{e x}}", flow{1, 0, "let cap b"}, flow{4, 0, "but _ a e+ x e-"})
	a.list("{l{i a{l{i b}}}{i c}}", flow{5, 1, "a"}, flow{5, 2, "let b"}, flow{6, 1, "let c"})
	a.list("{t{r{c a}{c}}{r{c}{c b}}}{k}", flow{7, 0, "a"}, flow{9, 0, ""}, flow{8, 0, ""}, flow{9, 0, "let b"}, flow{10, 0, ""})
	a.list("{p}", flow{4, 0, ""})
	a.list("{l{i}}", flow{5, 1, ""})
}

// P13.1: Text

// what asks for the cells of a text by their rules' Lefts, for the place of each, and whether the words say the same.
func (a asked) what(s, lefts string, places ...int) {
	a.Helper()
	l := trial.Toks(s)
	cells, at, e := fore.Text(a.Trie, l)
	if cells != a.cells(lefts) || !slices.Equal(at, places) || e != api.OK {
		a.Errorf("Text(%s): %q, %v, %d, want %q, %v", s, cells, at, e, a.cells(lefts), places)
	}
	a.says(l)
}

func TestTextOfNothing(t *testing.T) {
	for _, table := range trial.Tables() {
		a := ready(t, table)
		for _, l := range [][]api.Tok{nil, {}, trial.Toks("ab")[1:1]} {
			if cells, at, e := fore.Text(a.Trie, l); cells != "" || at != nil || e != api.OK {
				t.Errorf("%q, %v, %d", cells, at, e)
			}
		}
	}
}

// Spaces alone, at the beginning, at the end, on both sides, and several side by side: a blank each.
func TestTextOfSpaces(t *testing.T) {
	a := ready(t, trial.Fores())
	a.what(" ", "_", 0)
	a.what("  ", "_ _", 0, 1)
	a.what("     ", "_ _ _ _ _", 0, 1, 2, 3, 4)
	a.what(" a", "_ a", 0, 1)
	a.what("a ", "a _", 0, 1)
	a.what(" a ", "_ a _", 0, 1, 2)
	a.what("  but  it   ", "_ _ but _ _ it _ _ _", 0, 1, 2, 5, 6, 7, 9, 10, 11)
	a.what("a a", "a _ a", 0, 1, 2)
	a.what("a   a", "a _ _ _ a", 0, 1, 2, 3, 4)
}

// One token of each sort, by each table; by the examples' one, with its place.
func TestTextOfOneToken(t *testing.T) {
	for _, table := range trial.Tables() {
		a := ready(t, table)
		for kind := 1; kind <= 3; kind++ {
			for c := range 256 {
				if l := []api.Tok{{Kind: kind, Ch: byte(c), At: 9}}; chunk.Check(l) == api.OK || isSpace(l[0]) {
					a.says(l)
				}
			}
		}
	}
	a := ready(t, trial.Fores())
	a.what("a", "a", 0)
	a.what("b", "let b", 0, 0, 0)
	a.what("A", "cap a", 0, 0)
	a.what("B", "let cap b", 0, 0, 0, 0)
	a.what("7", "num 7", 0, 0)
	a.what(".", ".", 0)
	a.what("(", "(", 0, 0)
	for _, x := range []string{"e", "s", "n"} {
		a.what("<"+x, x+"+", 0, 0)
		a.what(">"+x, x+"-", 0, 0)
	}
}

// A word, one cased in each way, what is spelled, and what has let ahead; alone, and side by side.
func TestTextOfChunks(t *testing.T) {
	a := ready(t, trial.Fores())
	a.what("but", "but", 0)
	a.what("But", "cap but", 0, 0)
	a.what("BUT", "caps but", 0, 0, 0)
	a.what("buT", "b u cap t", 0, 1, 2, 2)
	a.what("sand", "s and", 0, 1)
	a.what("c", "let c", 0, 0, 0)
	a.what("can", "can", 0)
	a.what("but b But B", "but _ let b _ cap but _ let cap b", 0, 3, 4, 4, 4, 5, 6, 6, 9, 10, 10, 10, 10)
	a.what("but. but", "b u t . _ but", 0, 1, 2, 3, 4, 5)
}

// A sign that takes no token comes from the one behind it, let ahead of all from the chunk's first one, each cell of a piece from the first token that it takes, a blank from its space.
func TestTextPlaces(t *testing.T) {
	a := ready(t, trial.Fores())
	a.what("a con", "a _ con", 0, 1, 2, 2)
	a.what("coness x", "con e s s _ let x", 0, 0, 3, 4, 5, 6, 7, 7, 7)
	a.what("x oness", "let x _ o ness", 0, 0, 0, 1, 2, 3, 3)
	a.what("it 12 a1b", "it _ num 1 2 _ a num 1 let b", 0, 2, 3, 3, 4, 5, 6, 7, 7, 8, 8, 8)
	a.what("- SAND", "- _ caps s and", 0, 1, 2, 2, 2, 3)
	a.what(" SAnD", "_ cap s cap a n cap d", 0, 1, 1, 2, 2, 3, 4, 4)
	a.what("a (\"", "a _ ( \"", 0, 1, 2, 2, 3, 3)
	a.what("a X", "a _ let cap x", 0, 1, 2, 2, 2, 2)
}

// Openings and closings hold nothing together: a space within them parts chunks like any other one.
func TestTextOfEmphasis(t *testing.T) {
	a := ready(t, trial.Fores())
	a.what("<ea b>e", "e+ a _ b e-", 0, 0, 1, 2, 3, 4, 4)
	a.what("<e >e", "e+ _ e-", 0, 0, 1, 2, 2)
	a.what("<e but >e", "e+ _ but _ e-", 0, 0, 1, 2, 5, 6, 6)
	a.what("<s<n a>n>s", "s+ n+ _ a n- s-", 0, 0, 1, 1, 2, 3, 4, 4, 5, 5)
	a.what("<e>e", "e+ e-", 0, 0, 1, 1)
	a.what(">s b <n", "s- _ let b _ n+", 0, 0, 1, 2, 2, 2, 3, 4, 4)
	a.what("a <e1>e", "a _ e+ num 1 e-", 0, 1, 2, 2, 3, 3, 4, 4)
}

// A text that is long, and each of its chunks, or it has but one.
func TestTextLong(t *testing.T) {
	a := ready(t, trial.Fores())
	const most = 20000
	l := slices.Repeat(trial.Toks("but b "), most)
	cells, at, e := fore.Text(a.Trie, l)
	if cells != strings.Repeat(a.cells("but _ let b _"), most) || len(at) != len(cells) || e != api.OK {
		t.Errorf("%d cells, %d places, %d", len(cells), len(at), e)
	}
	for i, x := range at {
		if want := i/6*6 + []int{0, 3, 4, 4, 4, 5}[i%6]; x != want {
			t.Fatalf("cell %d comes from %d, want %d", i, x, want)
		}
	}
	for _, s := range []string{"x", "1", "."} {
		cells, at, e = fore.Text(a.Trie, slices.Repeat(trial.Toks(s), most))
		if len(cells) != most+len(a.cells("num"))*strings.Count(s, "1") || len(at) != len(cells) || at[len(at)-1] != most-1 || e != api.OK {
			t.Errorf("%s: %d cells, %d places, %d", s, len(cells), len(at), e)
		}
	}
}

// P13.2: Of

func TestOfNothing(t *testing.T) {
	a := ready(t, trial.Fores())
	for _, l := range [][]api.Tok{nil, {}, trial.Toks("ab")[1:1]} {
		if f, e := fore.Of(a.Trie, l); f != nil || e != api.OK {
			t.Errorf("%v, %d", f, e)
		}
	}
}

// A flow of each code, alone, with text.
func TestOfEachCode(t *testing.T) {
	a := ready(t, trial.Fores())
	a.list("{h1 a}", flow{1, 0, "a"})
	a.list("{h2 a}", flow{2, 0, "a"})
	a.list("{h3 a}", flow{3, 0, "a"})
	a.list("{p a}", flow{4, 0, "a"})
	a.list("{l{i a}}", flow{5, 1, "a"})
	a.list("{l{i}{i a}}", flow{5, 1, ""}, flow{6, 1, "a"})
	a.list("{t{r{c a}}}", flow{7, 0, "a"})
	a.list("{t{r{c}}{r{c a}}}", flow{7, 0, ""}, flow{8, 0, "a"})
	a.list("{t{r{c}{c a}}}", flow{7, 0, ""}, flow{9, 0, "a"})
	a.list("{k}", flow{10, 0, ""})
	if got := []int{api.FlowHead1, api.FlowHead2, api.FlowHead3, api.FlowPara, api.FlowList, api.FlowItem, api.FlowTable, api.FlowRow, api.FlowCell, api.FlowBreak}; !slices.Equal(got, []int{1, 2, 3, 4, 5, 6, 7, 8, 9, 10}) {
		t.Errorf("%v", got)
	}
}

// All blocks side by side, with no text, and with some, in many orders; a break at the beginning, between others, at the end, and beside another one.
func TestOfBlocks(t *testing.T) {
	a := ready(t, trial.Fores())
	a.list("{h1}{h2}{h3}{p}{l{i}}{t{r{c}}}{k}", flow{1, 0, ""}, flow{2, 0, ""}, flow{3, 0, ""}, flow{4, 0, ""}, flow{5, 1, ""}, flow{7, 0, ""}, flow{10, 0, ""})
	a.list("{k}{p a}{k}{k}{h2 b}{k}", flow{10, 0, ""}, flow{4, 0, "a"}, flow{10, 0, ""}, flow{10, 0, ""}, flow{2, 0, "let b"}, flow{10, 0, ""})
	blocks := []string{"{h1 A}", "{h2}", "{p but{n x}}", "{l{i a{l{i}}}}", "{t{r{c}{c x}}}", "{k}"}
	for l := range trial.Rows(blocks, 4) {
		a.has(trial.FlatOf(strings.Join(l, "")))
	}
}

// What is marked, and notes, are in the flow around; they are none of their own.
func TestOfWithin(t *testing.T) {
	a := ready(t, trial.Fores())
	a.list("{h2{n 1 a}}", flow{2, 0, "n+ num 1 _ a n-"})
	a.list("{p a{n it}a {e a {s but }}}", flow{4, 0, "a n+ i t n- a _ e+ a _ s+ b u t s- e-"})
	a.list("{l{i{s a}{l{i{n}}}}}", flow{5, 1, "s+ a s-"}, flow{5, 2, "n+ n-"})
	a.list("{t{r{c{e{s}}}}}", flow{7, 0, "e+ s+ s- e-"})
}

// Lists in lists: an item's text ends where its first list begins, there may be none ahead of that, and none of what comes behind is its.
func TestOfLists(t *testing.T) {
	a := ready(t, trial.Fores())
	a.list("{l{i a{l{i a}}}}", flow{5, 1, "a"}, flow{5, 2, "a"})
	a.list("{l{i{l{i a}}}}", flow{5, 1, ""}, flow{5, 2, "a"})
	a.list("{l{i{l{i}{i}}{l{i}{i}}}{i}}", flow{5, 1, ""}, flow{5, 2, ""}, flow{6, 2, ""}, flow{5, 2, ""}, flow{6, 2, ""}, flow{6, 1, ""})
	a.list("{l{i a{l{i b{l{i a}{i x}}}{i but}}}{i it}}", flow{5, 1, "a"}, flow{5, 2, "let b"}, flow{5, 3, "a"}, flow{6, 3, "let x"}, flow{6, 2, "but"}, flow{6, 1, "it"})
	a.list("{l{i}{i{l{i}}}}{l{i}{i}}", flow{5, 1, ""}, flow{6, 1, ""}, flow{5, 2, ""}, flow{5, 1, ""}, flow{6, 1, ""})
	a.list("{l{i a}}{p a}{l{i a}}", flow{5, 1, "a"}, flow{4, 0, "a"}, flow{5, 1, "a"})
	for most := 1; most <= api.MaxLists; most++ {
		var want []flow
		for i := range most {
			want = append(want, flow{5, i + 1, "a"})
		}
		for i := most; i > 0; i-- {
			want = append(want, flow{6, i, "it"})
		}
		a.list(strings.Repeat("{l{i a", most)+strings.Repeat("}{i it}}", most), want...)
	}
}

// Tables: the first cell of each row, and further ones, of one column and of eight, one table behind the other.
func TestOfTables(t *testing.T) {
	a := ready(t, trial.Fores())
	a.list("{t{r{c a}}{r{c a}}{r{c a}}}", flow{7, 0, "a"}, flow{8, 0, "a"}, flow{8, 0, "a"})
	a.list("{t{r{c}{c}{c}}{r{c}{c}{c}}}", flow{7, 0, ""}, flow{9, 0, ""}, flow{9, 0, ""}, flow{8, 0, ""}, flow{9, 0, ""}, flow{9, 0, ""})
	a.list("{t{r{c}{c}}}{t{r{c a}{c}}{r{c}{c}}}{k}", flow{7, 0, ""}, flow{9, 0, ""}, flow{7, 0, "a"}, flow{9, 0, ""}, flow{8, 0, ""}, flow{9, 0, ""}, flow{10, 0, ""})
	for most := 1; most <= api.MaxCols; most++ {
		row := "{r" + strings.Repeat("{c a}", most) + "}"
		cells := slices.Repeat([]flow{{9, 0, "a"}}, most-1)
		a.list("{t"+row+row+row+"}", slices.Concat([]flow{{7, 0, "a"}}, cells, []flow{{8, 0, "a"}}, cells, []flow{{8, 0, "a"}}, cells)...)
	}
}

// Where a flow's text stands, of one with text and of one without, and where its cells come from: among all tokens.
func TestOfPlaces(t *testing.T) {
	a := ready(t, trial.Fores())
	for s, want := range map[string][]api.Flow{
		"{p}":           {{Code: 4, From: 1, To: 1}},
		"{p a}":         {{Code: 4, Cells: a.cells("a"), At: []int{1}, From: 1, To: 2}},
		"{k}{p B a}":    {{Code: 10, From: 1, To: 1}, {Code: 4, Cells: a.cells("let cap b _ a"), At: []int{3, 3, 3, 3, 4, 5}, From: 3, To: 6}},
		"{h1 a}{p but}": {{Code: 1, Cells: a.cells("a"), At: []int{1}, From: 1, To: 2}, {Code: 4, Cells: a.cells("but"), At: []int{4}, From: 4, To: 7}},
		"{l{i a{l{i}{i con}}}{i{e}}}": {
			{Code: 5, Depth: 1, Cells: a.cells("a"), At: []int{2}, From: 2, To: 3}, {Code: 5, Depth: 2, From: 5, To: 5},
			{Code: 6, Depth: 2, Cells: a.cells("con"), At: []int{7, 7}, From: 7, To: 10}, {Code: 6, Depth: 1, Cells: a.cells("e+ e-"), At: []int{14, 14, 15, 15}, From: 14, To: 16},
		},
		"{l{i{l{i}}}}": {{Code: 5, Depth: 1, From: 2, To: 2}, {Code: 5, Depth: 2, From: 4, To: 4}},
		"{t{r{c}{c a}}}{t{r{c 1 a}}}": {
			{Code: 7, From: 3, To: 3}, {Code: 9, Cells: a.cells("a"), At: []int{5}, From: 5, To: 6},
			{Code: 7, Cells: a.cells("num 1 _ a"), At: []int{12, 12, 13, 14}, From: 12, To: 15},
		},
	} {
		l := trial.FlatOf(s)
		if got, e := fore.Of(a.Trie, l); !slices.EqualFunc(got, want, same) || e != api.OK {
			t.Errorf("%s: %v, %d, want %v", s, got, e, want)
		}
		a.has(l)
	}
}

// As large as a tree may be: in nodes, and in how deep it is; and a flow as long as a source may be.
func TestOfLarge(t *testing.T) {
	a := ready(t, trial.Fores())
	for _, s := range []string{strings.Repeat("{k}", api.MaxNodes), "{p " + strings.Repeat("but B1. ", 1000) + "x}", "{p " + strings.Repeat("a", 8000) + "}"} {
		l := trial.FlatOf(s)
		if f := a.has(l); len(f) != strings.Count(s, "{") || f[len(f)-1].To != len(l)-1 {
			t.Errorf("%s: %d flows", trial.Shown(s), len(f))
		}
	}
	a.has(trial.FlatOf(strings.Repeat("{l{i ", api.MaxLists) + "{s{e{n x}}}" + strings.Repeat("}}", api.MaxLists)))
}

// Each byte that a text may have, in a flow of each sort.
func TestOfEachByte(t *testing.T) {
	a := ready(t, trial.Ordinary())
	for c := range 256 {
		x := api.Tok{Kind: 1, Ch: byte(c)}
		for _, s := range []string{"<paa>p", "<l<iaa<l<i>i>l>i>l", "<t<r<caa>c>r>t", "<1a<ea>e>1"} {
			l := slices.Insert(trial.Toks(s), strings.Count(s[:strings.Index(s, "a")], "<")+1, x)
			if chunk.Check([]api.Tok{x}) == api.OK || isSpace(x) {
				a.has(l)
			} else {
				a.refusedOf(l, api.ErrForm)
			}
		}
	}
}

// Wrong inputs

// A byte beyond the repertoire, an opening and a closing of another letter, a Kind that there is not: alone, and at each place of a text.
func TestTextWrong(t *testing.T) {
	var wrong []api.Tok
	for c := range 256 {
		for _, kind := range []int{math.MinInt, -1, 0, 1, 2, 3, 4, 1<<32 + 1, math.MaxInt} {
			x := api.Tok{Kind: kind, Ch: byte(c), At: c}
			if chunk.Check([]api.Tok{x}) != api.OK && !isSpace(x) {
				wrong = append(wrong, x)
			}
		}
	}
	if len(wrong) < 2000 {
		t.Errorf("%d tokens", len(wrong))
	}
	for _, table := range [][]api.Rule{trial.Fores(), trial.Packed()} {
		a := ready(t, table)
		for _, x := range wrong {
			a.refused([]api.Tok{x})
		}
		for i, x := range wrong {
			l := trial.Toks(" but  b1 <ex>e ")
			a.refused(slices.Insert(l, i%(len(l)+1), x))
		}
		for _, s := range []string{"a\nb", "\n", "{", "a }", "caf\u00e9", "<p", "a >p", "<l<ia>i>l", "a <k>k", "< ", "> ", "a<E", "but ~", "\x00", " \t"} {
			a.refused(trial.Toks(s))
		}
	}
}

// wrongTrees is tokens that are no normalised tree's, by their error.
func wrongTrees() map[api.Errno][][]api.Tok {
	all := map[api.Errno][][]api.Tok{
		api.ErrDepth: {trial.Toks(strings.Repeat("<l<i", 9) + strings.Repeat(">i>l", 9))},
		api.ErrBound: {
			trial.Toks(strings.Repeat("<k>k", api.MaxNodes+1)),
			trial.Toks("<pa<n" + strings.Repeat("x", api.MaxNote+1) + ">n>p"),
		},
	}
	for _, s := range []string{
		"a", " ", "<e", "<ea>e", "<p", ">p", "<pa", "a>p", "<p>e", "<pa>p>p", "<p<pa>p>p", "<l>l", "<t>t", "<t<r>r>t", "<i>i", "<r<c>c>r", "<c>c", "<k<k>k>k", "<ka>k",
		"<p a>p", "<pa >p", "<pa  b>p", "<p >p", "<l<i a>i>l", "<t<r<c>c>r<r<c>c<c>c>r>t", "<l<i<l<i>i>la>i>l", "<p\x00>p", "<p\n>p", "<q>q", "<p<e<e>e>e>p", "<.a>.", "<p<n>n<n>n>p",
	} {
		all[api.ErrForm] = append(all[api.ErrForm], trial.Toks(s))
	}
	for _, x := range []api.Tok{{}, {Kind: -1, Ch: 'a'}, {Kind: 4, Ch: 'e'}, {Kind: math.MaxInt, Ch: 'p'}, {Kind: 1, Ch: 0x80}} {
		all[api.ErrForm] = append(all[api.ErrForm], []api.Tok{x}, slices.Insert(trial.Toks("<pab>p"), 2, x))
	}
	return all
}

// Tokens of each error, which is the one that Tree tells.
func TestOfWrong(t *testing.T) {
	for _, table := range trial.Tables() {
		a := ready(t, table)
		for err, rows := range wrongTrees() {
			for _, l := range rows {
				a.refusedOf(l, err)
				if _, e := flat.Tree(l); e != err {
					t.Errorf("%s: %d, want %d", trial.Shown(trial.Told(l)), e, err)
				}
			}
		}
	}
}

// Whatever the tokens are, the error is Tree's, or there is none.
func TestOfAny(t *testing.T) {
	a := ready(t, trial.Fores())
	for l := range trial.Rows(trial.Toks("<p>p<l<i>i>la <e>e"), 5) {
		_, err := flat.Tree(l)
		if err == api.OK {
			a.has(l)
		} else if f, e := fore.Of(a.Trie, l); f != nil || e != err {
			t.Errorf("%s: %v, %d, want %d", trial.Told(l), f, e, err)
		}
	}
}

// A table that is nobody's has its error first, whatever the tokens are.
func TestNobodys(t *testing.T) {
	for _, tr := range trial.Nobodys() {
		a := asked{t, tr, nil}
		for _, s := range []string{"", " ", "a", "but b", "<e", "<p", "<k>k", "<pa b>p", "\xff", strings.Repeat("sand ", 1000)} {
			a.refused(trial.Toks(s))
			a.refusedOf(trial.Toks(s), api.ErrArg)
		}
		for _, rows := range wrongTrees() {
			for _, l := range rows {
				a.refused(l)
				a.refusedOf(l, api.ErrArg)
			}
		}
		a.refused(nil)
		a.refusedOf(nil, api.ErrArg)
	}
}
