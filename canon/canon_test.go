package canon_test

import (
	"math"
	"slices"
	"strings"
	"testing"

	"stylus/api"
	"stylus/canon"
	"stylus/norm"
	"stylus/tree"
	"stylus/trial"
)

func must(t *testing.T, s string) []api.Node {
	t.Helper()
	l, at, e := tree.Parse(s)
	if e != api.OK {
		t.Fatalf("Parse(%q): %d, %d", trial.Shown(s), at, e)
	}
	return l
}

// normal is a source's tree, normalised.
func normal(t *testing.T, s string) []api.Node {
	t.Helper()
	n, e := norm.Of(must(t, s))
	if e != api.OK {
		t.Fatalf("norm of %q: %d", trial.Shown(s), e)
	}
	return n
}

// checkOf asks for a source's canonical text, both of the source and of its tree.
func checkOf(t *testing.T, s, want string) {
	t.Helper()
	if c, at, e := canon.Of(s); c != want || at != 0 || e != api.OK {
		t.Fatalf("Of(%q) = %q, %d, %d, want %q", trial.Shown(s), c, at, e, want)
	}
	checkWrite(t, normal(t, s), want)
}

// checkOfWrong asks for a source's fault, and for nothing beside it.
func checkOfWrong(t *testing.T, s string, place int, err api.Errno) {
	t.Helper()
	if c, at, e := canon.Of(s); c != "" || at != place || e != err {
		t.Fatalf("Of(%q) = %q, %d, %d, want %d, %d", trial.Shown(s), trial.Shown(c), at, e, place, err)
	}
}

func checkWrite(t *testing.T, l []api.Node, want string) {
	t.Helper()
	if c, e := canon.Write(l); c != want || e != api.OK {
		t.Fatalf("Write(%q) = %q, %d, want %q", trial.Shown(trial.Nodes(l)), c, e, want)
	}
}

func checkWriteWrong(t *testing.T, l []api.Node, err api.Errno) {
	t.Helper()
	if c, e := canon.Write(l); c != "" || e != err {
		t.Fatalf("Write(%q) = %q, %d, want %d", trial.Shown(trial.Nodes(l)), trial.Shown(c), e, err)
	}
}

// checkWords asks for what the document's words say of a row, whether or not it may be.
func checkWords(t *testing.T, l []api.Node) api.Errno {
	t.Helper()
	err := tree.Check(l)
	if err == api.OK && !norm.Is(l) {
		err = api.ErrArg
	}
	if err != api.OK {
		checkWriteWrong(t, l, err)
		return err
	}
	want := blocksOf(l)
	if len(want) > 8192 {
		checkWriteWrong(t, l, api.ErrBound)
		return api.ErrBound
	}
	checkWrite(t, l, want)
	return api.OK
}

// P6.1: Write

func TestWriteExamples(t *testing.T) {
	checkWrite(t, []api.Node{trial.Node('p', 0, 4), trial.Say("a", 0), trial.Node('e', 0, 2), trial.Say("b", 0)}, "{p a{e b}}\n")
	checkWrite(t, []api.Node{trial.Node('k', 0, 1), trial.Node('l', 0, 4), trial.Node('i', 0, 1), trial.Node('i', 0, 2), trial.Say("x", 0)}, "{k }\n{l {i }{i x}}\n")
}

func TestWriteNothing(t *testing.T) {
	for _, l := range [][]api.Node{nil, {}, must(t, trial.Rich)[:0], must(t, " \n\n ")} {
		checkWrite(t, l, "")
	}
}

// Each kind has its name, and a space behind it, with nothing in it and with something.
func TestWriteEachKind(t *testing.T) {
	for _, x := range []struct{ kinds, want string }{
		{"1", "{h1 }\n"}, {"2", "{h2 }\n"}, {"3", "{h3 }\n"}, {"p", "{p }\n"}, {"k", "{k }\n"},
		{"pe", "{p {e }}\n"}, {"ps", "{p {s }}\n"}, {"pn", "{p {n }}\n"}, {"li", "{l {i }}\n"}, {"trc", "{t {r {c }}}\n"},
		{"lili", "{l {i {l {i }}}}\n"}, {"1esn", "{h1 {e {s {n }}}}\n"}, {"trcse", "{t {r {c {s {e }}}}}\n"},
	} {
		var l []api.Node
		for i := range len(x.kinds) {
			l = append(l, trial.Node(x.kinds[i], 0, len(x.kinds)-i))
		}
		checkWrite(t, l, x.want)
		if strings.HasSuffix(x.kinds, "k") {
			continue
		}
		for i := range l {
			l[i].Size++
		}
		checkWrite(t, append(l, trial.Say("a b.", 0)), strings.Replace(x.want, " }", " a b.}", 1))
	}
}

// LF stands behind each block, and nowhere else.
func TestWriteBlocks(t *testing.T) {
	k, p, a := trial.Node('k', 0, 1), trial.Node('p', 0, 2), trial.Say("a", 0)
	checkWrite(t, []api.Node{k, k, k}, "{k }\n{k }\n{k }\n")
	checkWrite(t, []api.Node{p, a, k, p, a, p, a}, "{p a}\n{k }\n{p a}\n{p a}\n")
	checkWrite(t, []api.Node{trial.Node('l', 0, 3), trial.Node('i', 0, 1), trial.Node('i', 0, 1), trial.Node('l', 0, 3), trial.Node('i', 0, 2), a, k}, "{l {i }{i }}\n{l {i a}}\n{k }\n")
	checkWrite(t, normal(t, trial.Rich), "{h1 A{n x{s y}}b}\n{h2 }\n{h3 }\n{p a b{e c{s d{n e}}}f}\n{k }\n{l {i a{l {i b{n z}}{i }}{l {i c{s d}}}}{i }}\n"+
		"{t {r {c a}{c b{e x}}}{r {c }{c d}}}\n{p {s {e !}}{e ?}}\n")
}

// Each byte that a text may have is written as it is.
func TestWriteEachByte(t *testing.T) {
	for i := range 256 {
		b := string([]byte{byte(i)})
		l := trial.InP("a" + b + "b")
		if tree.Check(l) != api.OK || b == "\n" {
			continue
		}
		checkWrite(t, l, "{p a"+b+"b}\n")
	}
}

// Where nodes were in a source counts for nothing.
func TestWritePlaces(t *testing.T) {
	l := normal(t, trial.White)
	want := blocksOf(l)
	for _, at := range []int{0, -1, 9, math.MaxInt, math.MinInt} {
		for i := range l {
			l[i].At = at * (i % 3)
		}
		checkWrite(t, l, want)
	}
}

// P6.1: errors

// Of a row that is no tree that may be there is Check's error, and nothing else.
func TestWriteWrong(t *testing.T) {
	for want, rows := range trial.Wrong() {
		for _, l := range rows {
			checkWriteWrong(t, l, want)
		}
	}
}

func TestWriteNotNormalised(t *testing.T) {
	for _, texts := range [][]string{{" "}, {"\n"}, {" a"}, {"a "}, {"a\nb"}, {"a  b"}, {"a \n"}, {"a", "b"}, {"a", " b"}, {"a ", "b"}, {"a", " ", "b"}} {
		checkWriteWrong(t, trial.InP(texts...), api.ErrArg)
	}
	for _, s := range []string{"{p  }", "{p  a}", "{p a }", "{p a\nb}", "{p a  b}", "{p a {e  b}}", "{p {n x} a}", "{p a {n x}}", "{p {n  x}}", "{p {n x }a}", "{l {i a {l {i b}}}}", "{l {i a{l {i b }}}}", "{t {r {c a }{c }}}", "{p a{e  }}", "{p a{e  } b}", "{h1 a }{k }", "{k }{h3 \n}", trial.White, trial.Rich} {
		checkWriteWrong(t, must(t, s), api.ErrArg)
	}
}

// Check's error goes ahead of what is not normalised, and that ahead of what is too long.
func TestWriteSeveralErrors(t *testing.T) {
	long := strings.Repeat("a", 9000)
	checkWriteWrong(t, trial.InP(long), api.ErrBound)
	checkWriteWrong(t, trial.InP(long+" "), api.ErrArg)
	checkWriteWrong(t, trial.InP(" "+long), api.ErrArg)
	checkWriteWrong(t, trial.InP(long, long), api.ErrArg)
	checkWriteWrong(t, trial.InP(long+"~ "), api.ErrForm)
	checkWriteWrong(t, trial.InP(long, ""), api.ErrForm)
	checkWriteWrong(t, append(trial.InP(long), trial.Node('q', 0, 1)), api.ErrForm)
	checkWriteWrong(t, append(trial.InP(long), trial.InP(" ")...), api.ErrArg)
	for err, rows := range trial.Wrong() {
		for _, l := range rows {
			checkWriteWrong(t, slices.Concat(trial.InP(long), l), err)
			checkWriteWrong(t, slices.Concat(trial.InP(" a"), l), err)
		}
	}
}

// A text of just MaxSource bytes is one; one of a byte more is too long, whatever is the last to be written.
func TestWriteLongest(t *testing.T) {
	for _, x := range []struct {
		ahead, behind []api.Node
		bytes         int // but for those of the text between
	}{
		{nil, nil, len("{p }\n")},
		{nil, []api.Node{trial.Node('k', 0, 1)}, len("{p }\n{k }\n")},
		{nil, trial.InP("b"), len("{p }\n{p b}\n")},
		{slices.Repeat([]api.Node{trial.Node('k', 0, 1)}, 1000), nil, len("{p }\n") + 5000},
		{[]api.Node{trial.Node('l', 0, 4), trial.Node('i', 0, 3), trial.Node('e', 0, 1), trial.Say("b", 0)}, []api.Node{trial.Node('t', 0, 3), trial.Node('r', 0, 2), trial.Node('c', 0, 1)}, len("{l {i {e }b}}\n{p }\n{t {r {c }}}\n")},
	} {
		for _, bytes := range []int{8190, 8191, 8192, 8193, 8194} {
			l := slices.Concat(x.ahead, trial.InP(strings.Repeat("a", bytes-x.bytes)), x.behind)
			if bytes > 8192 {
				checkWriteWrong(t, l, api.ErrBound)
				continue
			}
			if c, e := canon.Write(l); len(c) != bytes || c != blocksOf(l) || e != api.OK {
				t.Errorf("%d bytes: %d, %d", bytes, len(c), e)
			}
		}
	}
	deep := []api.Node{trial.Node('l', 0, 4), trial.Node('i', 0, 3), trial.Node('s', 0, 2), trial.Say("", 0)}
	for _, bytes := range []int{8178, 8179, 8180, 8192, 100000} {
		deep[3].Text = strings.Repeat("a", bytes)
		if bytes+len("{l {i {s }}}\n") > 8192 {
			checkWriteWrong(t, deep, api.ErrBound)
		} else {
			checkWrite(t, deep, "{l {i {s "+deep[3].Text+"}}}\n")
		}
	}
}

func TestWriteManyNodes(t *testing.T) {
	k := []api.Node{trial.Node('k', 0, 1)}
	checkWrite(t, slices.Repeat(k, 1638), strings.Repeat("{k }\n", 1638))
	checkWriteWrong(t, slices.Repeat(k, 1639), api.ErrBound)
	checkWriteWrong(t, slices.Repeat(k, 2000), api.ErrBound)
	checkWriteWrong(t, slices.Repeat(k, 2001), api.ErrBound)
	e := append([]api.Node{trial.Node('p', 0, 2000)}, slices.Repeat([]api.Node{trial.Node('e', 0, 1)}, 1999)...)
	checkWrite(t, e, "{p "+strings.Repeat("{e }", 1999)+"}\n")
}

// However long its texts are, the answer comes.
func TestWriteHuge(t *testing.T) {
	huge := strings.Repeat("ab ", 3000000) + "a"
	checkWriteWrong(t, trial.InP(huge), api.ErrBound)
	checkWriteWrong(t, trial.InP(huge+" "), api.ErrArg)
	checkWriteWrong(t, trial.InP(huge+"~"), api.ErrForm)
}

// P6.1, by the document's words

func TestWriteShortRows(t *testing.T) {
	got := map[api.Errno]int{}
	for _, x := range []struct {
		ahead, of []api.Node
		most      int
	}{
		{nil, slices.Concat(trial.Every("pek", "", 3)[1:], trial.Every(".", "a", 1)[1:], trial.Every(".", " ", 1)[1:]), 4},
		{[]api.Node{trial.Node('2', 0, 5)}, slices.Concat(trial.Every("en", "", 3)[1:], trial.Every(".", "a", 1)[1:], trial.Every(".", " b", 1)[1:]), 4},
		{[]api.Node{trial.Node('l', 0, 6), trial.Node('i', 0, 5)}, slices.Concat(trial.Every("li", "", 3)[1:], trial.Every("s", "", 1)[1:], trial.Every(".", "a", 1)[1:]), 4},
		{nil, slices.Concat(trial.Every("trc", "", 4), trial.Every(".", "a", 1)[1:]), 4},
	} {
		for l := range trial.Rows(x.of, x.most) {
			got[checkWords(t, slices.Concat(x.ahead, l))]++
		}
	}
	if got[api.OK] < 200 || got[api.ErrArg] < 200 || got[api.ErrForm] < 200 {
		t.Errorf("%v", got)
	}
}

// A normalised tree with one node for another, or one left out.
func TestWriteSpoiltRows(t *testing.T) {
	for _, s := range []string{trial.White, trial.Rich} {
		whole := normal(t, s)
		for i, x := range whole {
			checkWords(t, whole[:i])
			checkWords(t, whole[i:])
			checkWords(t, slices.Delete(slices.Clone(whole), i, i+1))
			for _, kind := range []byte(trial.Kinds + ".q") {
				l := slices.Clone(whole)
				l[i].Kind = kind
				checkWords(t, l)
			}
			for size := range 6 {
				l := slices.Clone(whole)
				l[i].Size = size
				checkWords(t, l)
			}
			for at := 1; at < len(x.Text); at++ {
				checkWriteWrong(t, trial.Split(whole, i, at), api.ErrArg)
			}
		}
	}
}
