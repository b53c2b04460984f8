package tree_test

import (
	"math"
	"slices"
	"strings"
	"testing"

	"stylus/api"
	"stylus/lex"
	"stylus/tree"
	"stylus/trial"
)

func node(kind byte, text string, size int) api.Node {
	return api.Node{Kind: kind, Text: text, Size: size}
}

func checkCheck(t *testing.T, l []api.Node, want api.Errno) {
	t.Helper()
	if e := tree.Check(l); e != want {
		t.Fatalf("Check(%s) = %d, want %d", trial.Shown(trial.Nodes(l)), e, want)
	}
}

// checkLoose asks for the error of a source's row, whether or not it may be.
func checkLoose(t *testing.T, s string, want api.Errno) {
	t.Helper()
	s += trial.Ends(s)
	if e := tree.Check(loose(s)); e != want {
		t.Fatalf("Check of %q = %d, want %d", trial.Shown(s), e, want)
	}
}

// okIf is OK of what may be, else ErrForm.
func okIf(may bool) api.Errno {
	if may {
		return api.OK
	}
	return api.ErrForm
}

// P4.2

func TestCheckExamples(t *testing.T) {
	for _, s := range []string{"{p a{e b}}", "{l{i a{l{i b}}}}", "{k}{p}"} {
		checkLoose(t, s, api.OK)
	}
	for _, s := range []string{"x", "{l}", "{t{r{c a}{c b}}{r{c c}}}", "{p{e{s{e a}}}}", "{k} {p}"} {
		checkLoose(t, s, api.ErrForm)
	}
}

func TestCheckNothing(t *testing.T) {
	checkCheck(t, nil, api.OK)
	checkCheck(t, []api.Node{}, api.OK)
	checkCheck(t, must(t, trial.Rich)[:0], api.OK)
}

// Places count for nothing.
func TestCheckPlaces(t *testing.T) {
	for _, at := range []int{0, -1, 5, math.MaxInt, math.MinInt} {
		l := must(t, trial.Rich)
		for i := range l {
			l[i].At = at * (i%2 + 1)
		}
		checkCheck(t, l, api.OK)
		l[0].Kind = 'q'
		checkCheck(t, l, api.ErrForm)
	}
}

// Each node of a row has a Size that fits just as it is.
func TestCheckSizes(t *testing.T) {
	l := must(t, trial.Rich)
	for i := range l {
		for _, size := range []int{0, -1, math.MinInt, math.MinInt + i, math.MaxInt, math.MaxInt - i, len(l) - i + 1, len(l) + 1, l[i].Size + len(l), -l[i].Size} {
			other := slices.Clone(l)
			other[i].Size = size
			checkCheck(t, other, api.ErrForm)
		}
	}
	checkCheck(t, []api.Node{node('p', "", 1), node('.', "a", 1)}, api.ErrForm)
	checkCheck(t, []api.Node{node('p', "", 3), node('.', "a", 1)}, api.ErrForm)
	checkCheck(t, []api.Node{node('p', "", 2)}, api.ErrForm)
	checkCheck(t, []api.Node{node('k', "", 2), node('k', "", 1)}, api.ErrForm)
	checkCheck(t, []api.Node{node('p', "", 2), node('e', "", 2), node('.', "a", 1)}, api.ErrForm)
	checkCheck(t, []api.Node{node('p', "", 3), node('e', "", 1), node('.', "a", 1)}, api.OK)
}

// Rows that are cut off, or whose ahead is, are none, if that is within a node.
func TestCheckPartsOfRows(t *testing.T) {
	l := must(t, trial.Rich)
	for i := range l {
		checkCheck(t, l[:i], checked(l[:i]))
		checkCheck(t, l[i:], checked(l[i:]))
		without := slices.Delete(slices.Clone(l), i, i+1)
		checkCheck(t, without, checked(without))
	}
}

func TestCheckEachByteAsKind(t *testing.T) {
	for i := range 256 {
		kind := byte(i)
		checkCheck(t, []api.Node{node(kind, "", 1)}, okIf(strings.IndexByte("123pk", kind) >= 0))
		checkCheck(t, []api.Node{node('p', "", 2), node(kind, "", 1)}, okIf(strings.IndexByte("esn", kind) >= 0))
		checkCheck(t, []api.Node{node('p', "", 2), node(kind, "a", 1)}, okIf(kind == '.'))
		checkCheck(t, []api.Node{node(kind, "", 2), node('k', "", 1)}, api.ErrForm)
	}
}

// A text node has a Text, and no nodes within; any other one has none.
func TestCheckTexts(t *testing.T) {
	checkCheck(t, []api.Node{node('p', "", 2), node('.', "", 1)}, api.ErrForm)
	checkCheck(t, []api.Node{node('p', "", 3), node('.', "a", 2), node('.', "b", 1)}, api.ErrForm)
	checkCheck(t, []api.Node{node('p', "", 3), node('.', "a", 2), node('e', "", 1)}, api.ErrForm)
	checkCheck(t, []api.Node{node('p', "", 3), node('.', "a", 1), node('.', "b", 1)}, api.OK)
	l := must(t, trial.Rich)
	for i, x := range l {
		if x.Kind == '.' {
			l[i].Text = ""
		} else {
			l[i].Text = " "
		}
		checkCheck(t, l, api.ErrForm)
		l[i].Text = x.Text
	}
	checkCheck(t, l, api.OK)
}

// White is no text node where none may stand; in a source it is nothing there.
func TestCheckWhite(t *testing.T) {
	for _, white := range []string{" ", "\n", " \n "} {
		checkCheck(t, []api.Node{node('.', white, 1)}, api.ErrForm)
		checkCheck(t, []api.Node{node('k', "", 1), node('.', white, 1)}, api.ErrForm)
		checkCheck(t, []api.Node{node('k', "", 2), node('.', white, 1)}, api.ErrForm)
		checkCheck(t, []api.Node{node('l', "", 3), node('.', white, 1), node('i', "", 1)}, api.ErrForm)
		checkCheck(t, []api.Node{node('l', "", 3), node('i', "", 2), node('.', white, 1)}, api.OK)
		checkCheck(t, []api.Node{node('p', "", 2), node('.', white, 1)}, api.OK)
	}
}

func TestCheckEachByteOfATextNode(t *testing.T) {
	for i := range 256 {
		b := string([]byte{byte(i)})
		want := okIf(strings.Contains(inTexts, b))
		for _, s := range []string{b, "a" + b, b + "a", "ab" + b + "c", "\n" + b + b} {
			checkCheck(t, []api.Node{node('p', "", 2), node('.', s, 1)}, want)
			checkCheck(t, []api.Node{node('k', "", 1), node('t', "", 4), node('r', "", 3), node('c', "", 2), node('.', s, 1)}, want)
		}
	}
	checkCheck(t, []api.Node{node('p', "", 2), node('.', "caf\u00e9", 1)}, api.ErrForm)
	checkCheck(t, []api.Node{node('p', "", 2), node('.', strings.Repeat(inTexts, 200), 1)}, api.OK)
}

// Each kind, and text, stands in those that the table names, and in no other one.
func TestCheckEachKindInEachOther(t *testing.T) {
	for outer, ahead := range around {
		for i := range len(trial.Kinds) {
			inner := trial.Kinds[i]
			checkLoose(t, ahead+"{"+lex.Name(inner)+needs[inner], okIf(mayStand(outer, inner)))
		}
	}
}

func TestCheckWhatStandsWhereItMayNot(t *testing.T) {
	for _, s := range []string{
		"{l{i{l{i}}{e}", "{l{i{l{i}}{n}", "{l{i{l{i}}x", "{l{i{l{i}}{l{i}}{s}",
		"{p{e{s{e", "{p{s{n{e{s", "{p{e{n{s{e", "{p{n{e{n", "{p{n{s{e{n", "{t{r{c{e{n", "{t{r{c{s{e{n",
		"{p{n}{n", "{h1{e{n}}{n", "{h2{n}{s{e{n", "{l{i{n}{n", "{l{i{l{i{s{n}}{n",
	} {
		checkLoose(t, s, api.ErrForm)
	}
	for _, s := range []string{
		"{l{i{e}{n}x{l{i}}{l{i}}", "{p{e{s}}{s{e", "{p{s{n{e", "{p{e}{e}{s}{s", "{t{r{c{e{s", "{l{i{n}{l{i{n}}{i{e{n}}}}}{i{n",
	} {
		checkLoose(t, s, api.OK)
	}
}

func TestCheckWhatIsMissing(t *testing.T) {
	for _, s := range []string{"{l", "{t", "{t{r", "{k}{l}{p}", "{l{i{l", "{t{r{c}}{r}}", "{t{r}{r{c}}}"} {
		checkLoose(t, s, api.ErrForm)
	}
	for cells := 1; cells <= 10; cells++ {
		row := "{r" + strings.Repeat("{c}", cells) + "}"
		want := okIf(cells <= 8)
		checkLoose(t, "{t"+row, want)
		checkLoose(t, "{t"+row+row+row, want)
		checkLoose(t, "{t"+row+"{r"+strings.Repeat("{c}", cells+1), api.ErrForm)
		checkLoose(t, "{t"+row+"{r"+strings.Repeat("{c}", cells-1), api.ErrForm)
	}
}

func TestCheckDepth(t *testing.T) {
	for n := 1; n <= 40; n++ {
		want := api.OK
		if n > 8 {
			want = api.ErrDepth
		}
		checkLoose(t, lists(n), want)
		checkLoose(t, "{k}"+lists(n)+"a{e{s{n", want)
		checkLoose(t, "{l{i}{i"+lists(n-1)+trial.Ends(lists(n-1))+lists(n-1), want)
	}
	checkLoose(t, strings.Repeat(lists(8)+trial.Ends(lists(8)), 3), api.OK)
}

func TestCheckNodes(t *testing.T) {
	checkLoose(t, blank(2000), api.OK)
	checkLoose(t, blank(2001), api.ErrBound)
	checkLoose(t, blank(1998)+"{p a}", api.OK)
	checkLoose(t, blank(1999)+"{p a}", api.ErrBound)
	checkLoose(t, "{p"+strings.Repeat("{e}", 1999), api.OK)
	checkLoose(t, "{p"+strings.Repeat("{e}", 2000), api.ErrBound)
	checkCheck(t, slices.Repeat([]api.Node{node('k', "", 1)}, 100000), api.ErrBound)
}

func TestCheckNoteTexts(t *testing.T) {
	for _, n := range []int{60, 61} {
		want := api.OK
		if n > 60 {
			want = api.ErrBound
		}
		checkLoose(t, "{p{n "+long(n), want)
		checkLoose(t, "{h3{e{n "+strings.Repeat(" ", n), want)
		checkLoose(t, "{l{i{n "+long(n-40)+"{e "+long(10)+"{s "+long(20)+"}}"+long(10)+"}"+long(90), want)
		checkLoose(t, "{l{i{n "+long(60)+"}{l{i "+long(90)+"{n "+long(n), want)
		checkCheck(t, []api.Node{node('p', "", 4), node('n', "", 3), node('.', long(n-30), 1), node('.', long(30), 1)}, want)
	}
	checkLoose(t, "{p{n "+long(8000), api.ErrBound)
	checkLoose(t, "{p{n "+long(61)+"}}{p{n "+long(60)+"}}", api.ErrBound)
	checkLoose(t, "{p{n "+long(60)+"}}{p{n "+long(61)+"}}", api.ErrBound)
	checkLoose(t, blank(2001)+"{p{n a}}", api.ErrBound)
}

// What may not be goes ahead of what is too deep, and that ahead of what is too much, wherever they stand.
func TestCheckSeveralErrors(t *testing.T) {
	parts := []struct {
		l []api.Node
		e api.Errno
	}{
		{loose("{l}"), api.ErrForm},
		{loose(lists(9) + trial.Ends(lists(9))), api.ErrDepth},
		{loose("{p{n " + long(61) + "}}"), api.ErrBound},
		{loose(blank(2001)), api.ErrBound},
		{loose("{k}"), api.OK},
	}
	for i, x := range parts {
		for _, y := range parts[i:] {
			checkCheck(t, slices.Concat(x.l, y.l), x.e)
			checkCheck(t, slices.Concat(y.l, x.l), x.e)
			checkCheck(t, slices.Concat(y.l, x.l, y.l), x.e)
		}
	}
	checkLoose(t, lists(9)+"{n "+long(61), api.ErrDepth)
	checkLoose(t, "{l{i{n "+long(61)+"}"+lists(8), api.ErrDepth)
	checkLoose(t, lists(9)+"{l", api.ErrForm)
	checkLoose(t, lists(40)+"{e{e", api.ErrForm)
}

// However deep, or long, a row is, the answer comes.
func TestCheckLargeRows(t *testing.T) {
	const n = 100000
	for _, x := range []struct {
		kinds string
		want  api.Errno
	}{{"li", api.ErrDepth}, {"l", api.ErrForm}, {"p", api.ErrForm}, {"pe", api.ErrForm}, {".", api.ErrForm}, {"q", api.ErrForm}} {
		var l []api.Node
		for i := range n {
			l = append(l, node(x.kinds[i%len(x.kinds)], "", n-i))
		}
		checkCheck(t, l, x.want)
	}
}

func TestCheckShortRows(t *testing.T) {
	may := 0
	for _, x := range []struct {
		of   []api.Node
		most int
	}{
		{slices.Concat(trial.Every("pinq", "", 4), trial.Every(".", "a", 2), trial.Every(".p", " ", 2), trial.Every(".", "", 1), trial.Every(".", "~", 1)), 3},
		{slices.Concat(trial.Every("pen", "", 4)[1:], trial.Every(".", "a", 1)[1:]), 4},
		{slices.Concat(trial.Every("li", "", 5), trial.Every("e", "", 1)[1:]), 4},
		{trial.Every("trc", "", 4), 4},
	} {
		for l := range trial.Rows(x.of, x.most) {
			want := checked(l)
			if want == api.OK {
				may++
			}
			checkCheck(t, l, want)
		}
	}
	if may < 100 {
		t.Errorf("%d rows may be", may)
	}
}

// A row with one node for another, of any kind and size.
func TestCheckSpoiltRows(t *testing.T) {
	l := must(t, trial.Rich)
	for i, x := range l {
		for kind := range 128 {
			l[i].Kind = byte(kind)
			checkCheck(t, l, checked(l))
		}
		l[i] = x
		for size := range len(l) + 2 {
			l[i].Size = size
			checkCheck(t, l, checked(l))
		}
		l[i] = x
		for j := range i {
			l[i], l[j] = l[j], l[i]
			checkCheck(t, l, checked(l))
			l[i], l[j] = l[j], l[i]
		}
	}
}

// One row behind the other is a tree that may be, if both are.
func TestCheckJoined(t *testing.T) {
	l := must(t, trial.Rich)
	checkCheck(t, slices.Concat(l, l), api.OK)
	checkCheck(t, slices.Concat(l, l, []api.Node{node('i', "", 1)}), api.ErrForm)
	checkCheck(t, slices.Repeat(l, 2000/len(l)), api.OK)
	checkCheck(t, slices.Repeat(l, 2000/len(l)+1), api.ErrBound)
}
