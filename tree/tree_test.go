package tree_test

import (
	"slices"
	"strings"
	"testing"
	"unsafe"

	"stylus/api"
	"stylus/lex"
	"stylus/tree"
	"stylus/trial"
)

func must(t *testing.T, s string) []api.Node {
	t.Helper()
	l, at, e := tree.Parse(s)
	if at != 0 || e != api.OK {
		t.Fatalf("Parse(%q): %d, %d", trial.Shown(s), at, e)
	}
	return l
}

func checkParse(t *testing.T, s, want string) {
	t.Helper()
	if got := trial.Nodes(must(t, s)); got != want {
		t.Fatalf("Parse(%q) = %s, want %s", trial.Shown(s), got, want)
	}
}

// checkWrong asks for the fault, and for nothing beside it.
func checkWrong(t *testing.T, s string, place int, err api.Errno) {
	t.Helper()
	if l, at, e := tree.Parse(s); len(l) != 0 || at != place || e != err {
		t.Fatalf("Parse(%q) = %s, %d, %d, want %d, %d", trial.Shown(s), trial.Shown(trial.Nodes(l)), at, e, place, err)
	}
}

// checkWords asks for what the document's words say of a source.
func checkWords(t *testing.T, s string) {
	t.Helper()
	want, place, err := parsed(s)
	l, at, e := tree.Parse(s)
	if !slices.Equal(l, want) || at != place || e != err {
		t.Fatalf("Parse(%q) = %s, %d, %d, want %s, %d, %d", trial.Shown(s), trial.Nodes(l), at, e, trial.Nodes(want), place, err)
	}
}

// around has of each kind a source in which a node of that kind may stand next; of a row, the first one's cells count.
var around = map[byte]string{
	'_': "",
	'1': "{h1", '2': "{h2", '3': "{h3", 'p': "{p", 'k': "{k",
	'l': "{l", 'i': "{l{i", 't': "{t", 'r': "{t{r", 'c': "{t{r{c",
	'n': "{p{n", 'e': "{p{e", 's': "{p{s",
}

// needs is what a node of some kinds must have.
var needs = map[byte]string{'l': "{i}", 't': "{r{c}}", 'r': "{c}"}

// mayStand tells whether a node of the inner kind may stand in one of the outer kind, with no other node ahead.
func mayStand(outer, inner byte) bool {
	if outer == inner && strings.IndexByte("ens", inner) >= 0 || outer == 'c' && inner == 'n' {
		return false
	}
	return strings.IndexByte(inside[outer], inner) >= 0
}

// P4.1: what may be

func TestParseExamples(t *testing.T) {
	checkParse(t, "{p a{e b}}", "p4 .1a e2 .1b")
	checkParse(t, "{l{i a{l{i b}}}}", "l6 i5 .1a l3 i2 .1b")
	checkParse(t, "{k} {p}", "k1 p1")
	checkWrong(t, "x", 0, api.ErrForm)
	checkWrong(t, "{p", 2, api.ErrForm)
	checkWrong(t, "}", 0, api.ErrForm)
	checkWrong(t, "{l}", 2, api.ErrForm)
	checkWrong(t, "{t{r{c a}{c b}}{r{c c}}}", 22, api.ErrForm)
	checkWrong(t, "{p{e{s{e a}}}}", 6, api.ErrForm)
}

func TestParseNothing(t *testing.T) {
	for _, s := range []string{"", " ", "\n", " \n\n  "} {
		if l, at, e := tree.Parse(s); l != nil || at != 0 || e != api.OK {
			t.Errorf("Parse(%q) = %v, %d, %d", s, l, at, e)
		}
	}
}

func TestParseAll(t *testing.T) {
	checkParse(t, trial.Rich, "17 .1A n4 .1x s2 .1y .1b 21 32 .1\n p9 .1a b e6 .1c s4 .1d n2 .1e .1f k1 "+
		"l15 i13 .1a  l6 i4 .1b n2 .1z i1 l5 i4 .1c s2 .1d i1 "+
		"t12 r7 c2 .1a c4 .1b e2 .1x r4 c1 c2 .1d p6 s3 e2 .1! e2 .1?")
	checkWords(t, trial.Rich)
}

// Each kind may stand in those that the table names, and in no other one.
func TestParseEachKindInEachOther(t *testing.T) {
	for outer, ahead := range around {
		for i := range len(trial.Kinds) {
			inner := trial.Kinds[i]
			s := ahead + "{" + lex.Name(inner) + needs[inner]
			s += trial.Ends(s)
			if !mayStand(outer, inner) {
				checkWrong(t, s, len(ahead), api.ErrForm)
				continue
			}
			if l := must(t, s); !slices.ContainsFunc(l, func(x api.Node) bool { return x.Kind == inner && x.At == len(ahead) }) {
				t.Errorf("Parse(%q) = %s: no %c at %d", s, trial.Nodes(l), inner, len(ahead))
			}
		}
	}
}

// A text stands just where it may; white is nothing elsewhere, and a text with other bytes is wrong at the first of these.
func TestParseTextInEachKind(t *testing.T) {
	for outer, ahead := range around {
		if outer != '_' {
			ahead += "\n"
		}
		after := needs[outer]
		for _, text := range []string{"a", " ", "\n", " \n \n", " a", "\n  a b\n", ".\n"} {
			s := ahead + text + after
			s += trial.Ends(s)
			white := len(text) - len(strings.TrimLeft(text, " \n"))
			switch {
			case mayStand(outer, '.'):
				l := must(t, s)
				if !slices.Contains(l, api.Node{Kind: '.', Text: text, At: len(ahead), Size: 1}) {
					t.Errorf("Parse(%q) = %s", s, trial.Nodes(l))
				}
			case white < len(text):
				checkWrong(t, s, len(ahead)+white, api.ErrForm)
			default:
				without := ahead + after
				if l := must(t, s); trial.Nodes(l) != trial.Nodes(must(t, without+trial.Ends(without))) {
					t.Errorf("Parse(%q) = %s", s, trial.Nodes(l))
				}
			}
		}
	}
}

// White where no text may stand is nothing at each place there, and counts as none of what a node must have.
func TestParseWhite(t *testing.T) {
	checkParse(t, " \n{k}\n{k  }\n\n{k\n \n} ", "k1 k1 k1")
	checkParse(t, "{l\n\n  {i} \n {i}\n} ", "l3 i1 i1")
	checkParse(t, "{t \n {r\n\n {c} \n {c} \n} \n {r{c}\n{c}} \n}", "t7 r3 c1 c1 r3 c1 c1")
	checkParse(t, "{l{i {l{i}}}}", "l4 i3 l2 i1")
	checkParse(t, "{l{i  {l{i}}}}", "l5 i4 .1  l2 i1")
	checkParse(t, "{l{i{l{i}} \n{l{i}}\n }}", "l6 i5 l2 i1 l2 i1")
	checkWrong(t, "{l  }", 4, api.ErrForm)
	checkWrong(t, "{t\n\n}", 4, api.ErrForm)
	checkWrong(t, "{t{r   }}", 7, api.ErrForm)
	checkWrong(t, "{l{i{l{i}} \n a}}", 13, api.ErrForm)
	checkWrong(t, " \n x", 3, api.ErrForm)
	checkWrong(t, "{k  a }", 4, api.ErrForm)
}

func TestParseBehindLists(t *testing.T) {
	checkParse(t, "{l{i a{e b}c{n d}{s}{l{i}}{l{i}}{l{i}}}}", "l15 i14 .1a e2 .1b .1c n2 .1d s1 l2 i1 l2 i1 l2 i1")
	for _, behind := range []string{"a", "{e}", "{s}", "{n}"} {
		checkWrong(t, "{l{i{l{i}}"+behind+"}}", 10, api.ErrForm)
		checkWrong(t, "{l{i{l{i}} "+behind+"}}", 11, api.ErrForm)
		checkWrong(t, "{l{i{l{i}}{l{i}}"+behind+"}}", 16, api.ErrForm)
		must(t, "{l{i{l{i}}}{i"+behind+"}}")
	}
}

func TestParseRows(t *testing.T) {
	for n := range 12 {
		cells := strings.Repeat("{c}", n)
		switch {
		case n == 0:
			checkWrong(t, "{t{r}}", 4, api.ErrForm)
			checkWrong(t, "{t{r{c}}{r}}", 10, api.ErrForm)
		case n <= 8:
			must(t, "{t{r"+cells+"}}")
			must(t, "{t{r"+cells+"}{r"+cells+"}{r"+cells+"}}")
		default:
			checkWrong(t, "{t{r"+cells+"}}", 28, api.ErrForm)
			checkWrong(t, "{t{r{c}}{r"+cells+"}}", 34, api.ErrForm)
		}
	}
}

// Rows are as wide as the first one of their table, whatever other tables have.
func TestParseUnlikeRows(t *testing.T) {
	for a := 1; a <= 8; a++ {
		for b := 1; b <= 8; b++ {
			first, other := strings.Repeat("{c a}", a), strings.Repeat("{c}", b)
			s := "{t{r" + first + "}{r" + first + "}{r" + other
			if a == b {
				must(t, s+"}}")
			} else {
				checkWrong(t, s+"}}", len(s), api.ErrForm)
			}
			must(t, "{t{r"+first+"}}{t{r"+other+"}{r"+other+"}}")
		}
	}
}

// Emphasis of a kind never stands in its like, however much stands between, and may stand beside it.
func TestParseWithinItsLike(t *testing.T) {
	for _, s := range []string{"{p{e", "{h1{e{s", "{l{i{e{n", "{t{r{c{e a{s b", "{p{e{s{n", "{p{e{n{s"} {
		checkWrong(t, s+"{e", len(s), api.ErrForm)
	}
	for _, s := range []string{"{p{s", "{h1{s{e", "{l{i{s{n", "{t{r{c{s a{e b", "{p{s{e{n", "{p{s{n{e"} {
		checkWrong(t, s+"{s", len(s), api.ErrForm)
	}
	for _, s := range []string{"{p{n", "{h1{n{e", "{l{i{n{s", "{p{s{n{e", "{t{r{c", "{t{r{c{e", "{t{r{c a{s{e"} {
		checkWrong(t, s+"{n", len(s), api.ErrForm)
	}
	checkParse(t, "{p{e a}{e b}{s{e c}}{e{s d}}{s}}", "p12 e2 .1a e2 .1b s3 e2 .1c e3 s2 .1d s1")
	checkParse(t, "{p{e{n{s}}}}", "p4 e3 n2 s1")
}

// Of notes there is one in each heading, paragraph and item; those of emphasis count for these, those of an item's lists do not.
func TestParseNotes(t *testing.T) {
	for _, block := range []string{"{h1", "{h2", "{h3", "{p", "{l{i"} {
		for _, first := range []string{"{n}", "{e{n}}", "{s{e{n}a}}", "{n{e{s}}}"} {
			must(t, block+first+trial.Ends(block))
			for _, next := range []string{"{n", "{e{n", "{s a{e{n"} {
				s := block + first + " a" + next
				checkWrong(t, s+trial.Ends(s), strings.LastIndex(s, "{"), api.ErrForm)
			}
		}
	}
	must(t, "{p{n}}{p{n}}{h1{n}}{l{i{n}}{i{n}}{i{e{n}}{l{i{n}}{i{s{n}}}}}}")
	checkWrong(t, "{l{i{n}{l{i{n}{n}}}}}", 14, api.ErrForm)
	checkWrong(t, "{l{i{l{i{n}}}{n}}}", 13, api.ErrForm)
}

// P4.1: bounds

// lists is so many lists within lists, not closed.
func lists(n int) string { return strings.Repeat("{l{i", n) }

func TestParseListsWithinLists(t *testing.T) {
	for n := 1; n <= 8; n++ {
		l := must(t, lists(n)+trial.Ends(lists(n)))
		if len(l) != 2*n || l[0].Size != 2*n {
			t.Errorf("%d lists: %s", n, trial.Nodes(l))
		}
		must(t, "{l{i}{i"+lists(n-1)+trial.Ends(lists(n-1))+lists(n-1)+trial.Ends(lists(n-1))+"}}")
	}
	for _, behind := range []string{"", "}", "{i", "x", trial.Ends(lists(9))} {
		checkWrong(t, lists(8)+"{l"+behind, 32, api.ErrDepth)
	}
	checkWrong(t, lists(8)+trial.Ends(lists(8))+lists(9)+trial.Ends(lists(9)), 80, api.ErrDepth)
	must(t, strings.Repeat(lists(8)+trial.Ends(lists(8)), 20))
}

// The deepest that may be without too many lists: eight of them, and a note in emphasis in the innermost item.
func TestParseDepth(t *testing.T) {
	deepest := lists(8) + " {e{s{n"
	l := must(t, deepest+"a"+trial.Ends(deepest))
	if len(l) != 20 || l[len(l)-1].Text != "a" {
		t.Errorf("%s", trial.Nodes(l))
	}
	checkWrong(t, deepest+"{l", len(deepest), api.ErrForm)
	for n := 16; n <= 17; n++ {
		checkWrong(t, lists(n)+trial.Ends(lists(n)), 32, api.ErrDepth)
	}
}

func TestParseNodes(t *testing.T) {
	full := blank(2000)
	if l := must(t, full); len(l) != 2000 {
		t.Errorf("%d nodes", len(l))
	}
	must(t, full+"\n \n")
	checkWrong(t, full+"{k}", 6000, api.ErrBound)
	checkWrong(t, full+"\n{p", 6001, api.ErrBound)
	checkWrong(t, full+"{k", 6000, api.ErrBound)
	checkWrong(t, full+"{i}", 6000, api.ErrForm)
	checkWrong(t, full+"}", 6000, api.ErrForm)
	checkWrong(t, full+" x", 6001, api.ErrForm)
	checkWrong(t, full+"{k}~", 6003, api.ErrChar)
}

// A text node is one as any other.
func TestParseNodesWithTexts(t *testing.T) {
	if l := must(t, blank(1998)+"{p a}"); len(l) != 2000 {
		t.Errorf("%d nodes", len(l))
	}
	checkWrong(t, blank(1999)+"{p\n\n a}", 6000, api.ErrBound)
	checkWrong(t, blank(1999)+"{p{e", 5999, api.ErrBound)
	must(t, blank(1999)+"{p }")
	must(t, blank(1998)+"{l \n {i}\n\n}\n ")
	checkWrong(t, blank(1984)+lists(8)+"{l", 5984, api.ErrDepth)
	checkWrong(t, blank(1984)+lists(8)+"{i", 5984, api.ErrForm)
	checkWrong(t, blank(1984)+lists(8)+"{e", 5984, api.ErrBound)
}

// blank is so many nodes.
func blank(n int) string { return strings.Repeat("{k}", n) }

// long is a text of so many bytes.
func long(n int) string { return strings.Repeat("a", n) }

func TestParseNoteTexts(t *testing.T) {
	for _, block := range []string{"{h1", "{p", "{p{e{s", "{l{i{l{i"} {
		at := len(block) + 3
		must(t, block+"{n\n"+long(60)+"}"+trial.Ends(block))
		checkWrong(t, block+"{n\n"+long(61)+"}"+trial.Ends(block), at, api.ErrBound)
		must(t, block+"{n\n"+strings.Repeat(" ", 60)+"}"+long(100)+trial.Ends(block))
		checkWrong(t, block+"{n "+strings.Repeat("\n", 61)+"}"+trial.Ends(block), at, api.ErrBound)
	}
	must(t, "{p{n "+long(20)+"{e "+long(20)+"{s "+long(10)+"}"+long(9)+"}a}"+long(70)+"}")
	checkWrong(t, "{p{n "+long(20)+"{e "+long(20)+"{s "+long(10)+"}"+long(9)+"}ab}}", 72, api.ErrBound)
	checkWrong(t, "{p{n{e{s "+long(60)+"}}{s{e\na}}}}", 76, api.ErrBound)
	must(t, "{p{n "+long(60)+"}}{p{n "+long(60)+"}}{l{i{n "+long(60)+"}"+long(60)+"{l{i{n "+long(60)+"}}}}}")
	checkWrong(t, "{l{i{n "+long(60)+"}{l{i{n "+long(61)+"}}}}}", 75, api.ErrBound)
}

// P4.1: faults

func TestParseWhatLexRefuses(t *testing.T) {
	checkWrong(t, "{q}", 0, api.ErrForm)
	checkWrong(t, "{p~", 2, api.ErrChar)
	checkWrong(t, "{p {h4}}", 3, api.ErrForm)
	checkWrong(t, long(8193), 0, api.ErrBound)
	must(t, "{p "+long(8188)+"}")
	checkWrong(t, "{p "+long(8189)+"}", 0, api.ErrBound)
}

// What lex refuses goes ahead of all that stands where it may not, wherever that is.
func TestParseWhatLexRefusesFirst(t *testing.T) {
	checkWrong(t, "x~", 1, api.ErrChar)
	checkWrong(t, "}{q", 1, api.ErrForm)
	checkWrong(t, "{l}{i}{p{p}} {", 13, api.ErrForm)
	checkWrong(t, lists(9)+"~", 36, api.ErrChar)
	checkWrong(t, "{p{n "+long(61)+"{h", 66, api.ErrForm)
	checkWrong(t, "x"+long(8192), 0, api.ErrBound)
}

// Of several faults that are not lex's, the first is told.
func TestParseSeveralFaults(t *testing.T) {
	checkWrong(t, "x}", 0, api.ErrForm)
	checkWrong(t, "{l}x", 2, api.ErrForm)
	checkWrong(t, "{p{n "+long(61)+"}{n}}", 5, api.ErrBound)
	checkWrong(t, "{p{n}{n "+long(61)+"}}", 5, api.ErrForm)
	checkWrong(t, lists(9)+"{p", 32, api.ErrDepth)
	checkWrong(t, "{t{r{c}}{r}}}", 10, api.ErrForm)
	checkWrong(t, "{l{i{n "+long(61)+"}"+lists(9), 7, api.ErrBound)
	checkWrong(t, "{l", 2, api.ErrForm)
}

func TestParseNotClosed(t *testing.T) {
	for _, s := range around {
		if s != "" {
			checkWrong(t, s, len(s), api.ErrForm)
			checkWrong(t, "{k}"+s+" ", len(s)+4, api.ErrForm)
		}
	}
	checkWrong(t, "{p a", 4, api.ErrForm)
	checkWrong(t, "{p{e a}", 7, api.ErrForm)
	checkWrong(t, "{l{i}{i}", 8, api.ErrForm)
	for i := range trial.Rich {
		open := strings.Count(trial.Rich[:i], "{") > strings.Count(trial.Rich[:i], "}")
		if _, _, e := lex.Of(trial.Rich[:i]); e == api.OK && open {
			checkWrong(t, trial.Rich[:i], i, api.ErrForm)
		}
	}
}

func TestParseClosingTooMany(t *testing.T) {
	for _, s := range []string{"", " ", "\n\n", "{k}", "{p a}", "{l{i}}\n", trial.Rich} {
		for _, behind := range []string{"", "}", "{k}", "x", "{p"} {
			checkWrong(t, s+"}"+behind, len(s), api.ErrForm)
		}
	}
}

// P4.1, by the document's words

func TestParseShortSources(t *testing.T) {
	for _, x := range []struct {
		ahead, pieces string
		most          int
	}{
		{"", trial.Kinds + "}. ", 3},
		{"", "pl}. ", 5},
		{"{2", "ens.}", 6},
		{"{l{i", "lien.} ", 4},
		{"{l{i{l{i}}", "lie.} ", 5},
		{"{t", "trc.} ", 5},
		{"{t{r{c}{c a}}", "rc}", 7},
		{"{t{r{c", "ens.}", 5},
	} {
		for s := range trial.Texts(x.pieces, x.most) {
			checkWords(t, x.ahead+trial.Written(s))
			checkWords(t, x.ahead+trial.Written(s)+trial.Ends(x.ahead))
		}
	}
}

// Sources with a piece more, a piece less, or one for another.
func TestParseSpoiltSources(t *testing.T) {
	var places []int
	for i := range len(trial.Rich) + 1 {
		if _, _, e := lex.Of(trial.Rich[:i]); e == api.OK {
			places = append(places, i)
		}
	}
	for _, at := range places {
		for i := range len(trial.Kinds) {
			checkWords(t, trial.Rich[:at]+"{"+lex.Name(trial.Kinds[i])+"}"+trial.Rich[at:])
			checkWords(t, trial.Rich[:at]+"{"+lex.Name(trial.Kinds[i])+" "+trial.Rich[at:])
		}
		for _, piece := range []string{"}", "x", " ", "\n"} {
			checkWords(t, trial.Rich[:at]+piece+trial.Rich[at:])
		}
		for _, to := range places {
			if to > at {
				checkWords(t, trial.Rich[:at]+trial.Rich[to:])
			}
		}
	}
}

// P4.3

func TestSame(t *testing.T) {
	l := must(t, trial.Rich)
	if !tree.Same(l, l) || !tree.Same(nil, nil) || !tree.Same(nil, []api.Node{}) || !tree.Same(l, must(t, " \n"+trial.Rich)) {
		t.Error("not the same")
	}
	for i := range l {
		other := slices.Clone(l)
		other[i].At += 7
		if !tree.Same(l, other) || !tree.Same(other, l) {
			t.Errorf("node %d: not the same, by its place", i)
		}
		for _, x := range []api.Node{
			{Kind: l[i].Kind + 1, Text: l[i].Text, Size: l[i].Size},
			{Kind: l[i].Kind, Text: l[i].Text + " ", Size: l[i].Size},
			{Kind: l[i].Kind, Text: l[i].Text, Size: l[i].Size + 1},
			{Kind: l[i].Kind, Text: l[i].Text, Size: -l[i].Size},
		} {
			other[i] = x
			if tree.Same(l, other) || tree.Same(other, l) {
				t.Errorf("node %d: %s is the same as %s", i, trial.Nodes(other[i:i+1]), trial.Nodes(l[i:i+1]))
			}
		}
		if tree.Same(l, l[:i]) || tree.Same(l[:i], l) || tree.Same(l, l[i+1:]) {
			t.Errorf("the same as %d nodes", i)
		}
	}
}

// Rows that are no trees may be the same all the same.
func TestSameOfNoTrees(t *testing.T) {
	l := []api.Node{{Kind: 'q', Text: "\xff", At: -1, Size: -5}, {}}
	if !tree.Same(l, []api.Node{{Kind: 'q', Text: "\xff", At: 9, Size: -5}, {At: 1}}) || tree.Same(l, []api.Node{l[1], l[0]}) || tree.Same(l[:1], l[1:]) {
		t.Error("of no trees")
	}
}

// P4.4

// What is answered is the caller's: what he makes of it is not seen by the next call, and no text is a piece of the source.
func TestParseAnswersNewMemory(t *testing.T) {
	want := trial.Nodes(must(t, trial.Rich))
	l := must(t, trial.Rich)
	clear(l[:cap(l)])
	checkParse(t, trial.Rich, want)
	from := uintptr(unsafe.Pointer(unsafe.StringData(trial.Rich)))
	for _, x := range must(t, trial.Rich) {
		if x.Kind != '.' {
			continue
		}
		if at := uintptr(unsafe.Pointer(unsafe.StringData(x.Text))); at >= from && at < from+uintptr(len(trial.Rich)) {
			t.Errorf("the text at %d shares the source's memory", x.At)
		}
	}
}

// Neither a row that is handed in nor the room behind its end is changed.
func TestHandedInStays(t *testing.T) {
	whole := append(must(t, trial.Rich), api.Node{Kind: 'q', At: 1, Size: 9})
	for n := range whole {
		l := slices.Clone(whole)
		tree.Check(l[:n])
		tree.Same(l[:n], l[:n])
		tree.Same(l[:n], l)
		if !slices.Equal(l, whole) {
			t.Fatalf("%d nodes: %s", n, trial.Nodes(l))
		}
	}
}

// P4.5

// checkMayBe asks that what is parsed may be, and that all its nodes stand in the source at their places.
func checkMayBe(t *testing.T, s string, l []api.Node) {
	t.Helper()
	if e := tree.Check(l); e != api.OK {
		t.Fatalf("Check of %q: %d", trial.Shown(s), e)
	}
	for i, x := range l {
		want := x.Text
		if x.Kind != '.' {
			want = "{" + lex.Name(x.Kind)
		}
		if !strings.HasPrefix(s[x.At:], want) || i > 0 && x.At <= l[i-1].At {
			t.Fatalf("%q: node %d, %s, is not at %d", trial.Shown(s), i, trial.Nodes(l[i:i+1]), x.At)
		}
	}
}

func TestParsedMayBe(t *testing.T) {
	for _, s := range []string{"", trial.Rich, blank(2000), blank(1998) + "{p a}", lists(8) + trial.Ends(lists(8)), "{p{n " + long(60) + "}}", "{p " + long(8188) + "}"} {
		checkMayBe(t, s, must(t, s))
	}
	n := 0
	for _, x := range []struct {
		pieces string
		most   int
	}{{"pe.} ", 6}, {"lie}", 7}, {"trc}", 7}, {trial.Kinds + "}. ", 3}} {
		for s := range trial.Texts(x.pieces, x.most) {
			s = trial.Written(s)
			if l, _, e := tree.Parse(s); e == api.OK {
				n++
				checkMayBe(t, s, l)
			}
		}
	}
	if n < 100 {
		t.Errorf("%d trees", n)
	}
}

// P4.6

// checkJoined asks that a source and another one behind it are parsed as both trees.
func checkJoined(t *testing.T, s, next string) {
	t.Helper()
	want := must(t, s)
	for _, x := range must(t, next) {
		x.At += len(s)
		want = append(want, x)
	}
	if got := must(t, s+next); !slices.Equal(got, want) {
		t.Fatalf("Parse(%q) = %s, want %s", trial.Shown(s+next), trial.Nodes(got), trial.Nodes(want))
	}
}

func TestBlocks(t *testing.T) {
	all := []string{trial.Rich, " ", "\n", "{k}", "{p a}", " {p }\n", "{h1 a{n b}}", lists(8) + trial.Ends(lists(8)), "{t{r{c}{c}}}", "{t{r{c}}}"}
	for _, pieces := range []string{"kp.} ", "li}"} {
		for s := range trial.Texts(pieces, 5) {
			if _, _, e := tree.Parse(trial.Written(s)); e == api.OK {
				all = append(all, trial.Written(s))
			}
		}
	}
	for _, s := range all {
		for _, next := range all {
			checkJoined(t, s, next)
		}
		checkWrong(t, s+"}", len(s), api.ErrForm)
	}
}

// A source is not kept from being parsed by how many nodes, or bytes, it has, up to the bounds; both together are.
func TestBlocksOfManyNodes(t *testing.T) {
	checkJoined(t, blank(1000), blank(1000))
	checkWrong(t, blank(1000)+blank(1001), 6000, api.ErrBound)
	half := "{p " + long(4092) + "}"
	checkJoined(t, half, half)
	checkWrong(t, half+" "+half, 0, api.ErrBound)
}

func TestClosingAlone(t *testing.T) {
	checkWrong(t, "}", 0, api.ErrForm)
	checkWrong(t, " \n}", 2, api.ErrForm)
	checkWrong(t, "}"+trial.Rich, 0, api.ErrForm)
	checkWrong(t, strings.Repeat("}", 8192), 0, api.ErrForm)
}
