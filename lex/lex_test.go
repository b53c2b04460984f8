package lex_test

import (
	"regexp"
	"slices"
	"strings"
	"testing"
	"unsafe"

	"stylus/api"
	"stylus/lex"
	"stylus/trial"
)

// The document's names, their letters, and what a text may have are written out here, so that no test leans on the program's own.
var names = []string{"h1", "h2", "h3", "p", "l", "i", "t", "r", "c", "n", "e", "s", "k"}

const letters = "123plitrcnesk"

const inTexts = "abcdefghijklmnopqrstuvwxyzABCDEFGHIJKLMNOPQRSTUVWXYZ0123456789.,;:!?'\"-()/ \n"

// nameOf is the name with that letter.
func nameOf(letter byte) string {
	return names[strings.IndexByte(letters, letter)]
}

func open(letter byte, at int) api.Lex {
	return api.Lex{Kind: api.LexOpen, Name: letter, At: at}
}

func text(s string, at int) api.Lex {
	return api.Lex{Kind: api.LexText, Text: s, At: at}
}

func closing(at int) api.Lex {
	return api.Lex{Kind: api.LexClose, At: at}
}

func checkOf(t *testing.T, s string, want ...api.Lex) {
	t.Helper()
	if l, at, e := lex.Of(s); !slices.Equal(l, want) || at != 0 || e != api.OK {
		t.Fatalf("Of(%q) = %v, %d, %d, want %v", trial.Shown(s), l, at, e, want)
	}
}

// checkSpoilt asks for the fault, and for nothing beside it.
func checkSpoilt(t *testing.T, s string, place int, err api.Errno) {
	t.Helper()
	if l, at, e := lex.Of(s); len(l) != 0 || at != place || e != err {
		t.Fatalf("Of(%q) = %v, %d, %d, want %d, %d", trial.Shown(s), l, at, e, place, err)
	}
}

// read is what a source that is not spoilt is read as.
func read(t *testing.T, s string) []api.Lex {
	t.Helper()
	l, at, e := lex.Of(s)
	if at != 0 || e != api.OK {
		t.Fatalf("Of(%q): %d, %d", trial.Shown(s), at, e)
	}
	return l
}

// P3.1: what is read

func TestOfExamples(t *testing.T) {
	checkOf(t, "{p a b}", open('p', 0), text("a b", 3), closing(6))
	checkOf(t, "{h1a}}", open('1', 0), text("a", 3), closing(4), closing(5))
	checkOf(t, "")
	checkSpoilt(t, "{q}", 0, api.ErrForm)
	checkSpoilt(t, "a{", 1, api.ErrForm)
	checkSpoilt(t, "a~", 1, api.ErrChar)
	checkSpoilt(t, "{h4}", 0, api.ErrForm)
}

func TestOfEachName(t *testing.T) {
	for i, name := range names {
		letter := letters[i]
		end := 1 + len(name)
		checkOf(t, "{"+name, open(letter, 0))
		checkOf(t, "{"+name+"}", open(letter, 0), closing(end))
		checkOf(t, "{"+name+name+"}", open(letter, 0), text(name, end), closing(2*end-1))
		checkOf(t, "{"+name+"{"+name, open(letter, 0), open(letter, end))
		checkOf(t, "a{"+name+"}b", text("a", 0), open(letter, 1), closing(1+end), text("b", 2+end))
		checkOf(t, " {"+name+" ", text(" ", 0), open(letter, 1))
	}
}

// One white byte behind a name belongs to the opening, a second one does not.
func TestOfWhiteBehindEachName(t *testing.T) {
	for i, name := range names {
		opened := open(letters[i], 0)
		end := 1 + len(name)
		for _, white := range []string{" ", "\n"} {
			checkOf(t, "{"+name+white, opened)
			checkOf(t, "{"+name+white+"}", opened, closing(end+1))
			checkOf(t, "{"+name+white+"a", opened, text("a", end+1))
			checkOf(t, "{"+name+white+"{k}", opened, open('k', end+1), closing(end+3))
			checkOf(t, "{"+name+white+" ", opened, text(" ", end+1))
			checkOf(t, "{"+name+white+"\n", opened, text("\n", end+1))
			checkOf(t, "{"+name+white+" \n a", opened, text(" \n a", end+1))
		}
	}
}

// Of all bytes just the space and LF are taken by an opening, and those that are of no text spoil the source.
func TestOfEachByteBehindAName(t *testing.T) {
	for i := range 256 {
		b := string([]byte{byte(i)})
		switch {
		case b == " " || b == "\n":
			checkOf(t, "{p"+b+"}", open('p', 0), closing(3))
		case strings.Contains(inTexts, b):
			checkOf(t, "{p"+b+"}", open('p', 0), text(b, 2), closing(3))
		case b == "}":
			checkOf(t, "{p"+b+"}", open('p', 0), closing(2), closing(3))
		case b == "{":
			checkSpoilt(t, "{p"+b+"}", 2, api.ErrForm)
		default:
			checkSpoilt(t, "{p"+b+"}", 2, api.ErrChar)
		}
	}
}

func TestOfTexts(t *testing.T) {
	for _, s := range []string{" ", "\n", "  ", " \n\n ", "a", "a\nb", inTexts, strings.Repeat(inTexts, 100), "h1", "p a", "(x/y)!"} {
		checkOf(t, s, text(s, 0))
		checkOf(t, "}"+s+"}", closing(0), text(s, 1), closing(1+len(s)))
		checkOf(t, "{k}"+s+"{k}", open('k', 0), closing(2), text(s, 3), open('k', 3+len(s)), closing(5+len(s)))
	}
}

func TestOfClosingsWithoutOpenings(t *testing.T) {
	checkOf(t, "}", closing(0))
	checkOf(t, "}}}", closing(0), closing(1), closing(2))
	checkOf(t, "} }", closing(0), text(" ", 1), closing(2))
	checkOf(t, "}a{p", closing(0), text("a", 1), open('p', 2))
}

func TestOfOpeningsWithoutClosings(t *testing.T) {
	checkOf(t, "{p{e{s", open('p', 0), open('e', 2), open('s', 4))
	checkOf(t, "{l {i\n{l", open('l', 0), open('i', 3), open('l', 6))
}

// P3.1: faults

func TestOfWhatIsNoName(t *testing.T) {
	for i := range 256 {
		b := string([]byte{byte(i)})
		if strings.Contains("plitrcnesk", b) {
			continue
		}
		checkSpoilt(t, "{"+b, 0, api.ErrForm)
		checkSpoilt(t, "{"+b+"p}", 0, api.ErrForm)
		checkSpoilt(t, "{p a{"+b+"b}}", 4, api.ErrForm)
	}
	for i := range 256 {
		b := string([]byte{byte(i)})
		if !strings.Contains("123", b) {
			checkSpoilt(t, "{h"+b, 0, api.ErrForm)
			checkSpoilt(t, "{h"+b+"1}", 0, api.ErrForm)
		}
	}
	for _, name := range names {
		checkSpoilt(t, "{ "+name, 0, api.ErrForm)
		checkSpoilt(t, "{\n"+name, 0, api.ErrForm)
		checkSpoilt(t, "{"+strings.ToUpper(name), 0, api.ErrForm)
		checkSpoilt(t, "{{"+name, 0, api.ErrForm)
	}
}

func TestOfOpeningCutOffAtTheEnd(t *testing.T) {
	for _, ahead := range []string{"", "a", "a b", "}", "{p", "{p ", "{h1 a}"} {
		checkSpoilt(t, ahead+"{", len(ahead), api.ErrForm)
		checkSpoilt(t, ahead+"{h", len(ahead), api.ErrForm)
	}
}

// A byte that is of nothing is told at its place, wherever in the source that is.
func TestOfBytesOfNothing(t *testing.T) {
	for i := range 256 {
		b := string([]byte{byte(i)})
		if strings.Contains(inTexts+"{}", b) {
			continue
		}
		for _, ahead := range []string{"", "a", "a b", "\n", "}", "{p", "{p ", "{h1 a}", "{p a{e b}"} {
			for _, behind := range []string{"", "a", " ", "}", "{p}", "{", b} {
				checkSpoilt(t, ahead+b+behind, len(ahead), api.ErrChar)
			}
		}
	}
}

// Letters, marks and white of other scripts are bytes of nothing.
func TestOfOtherRunes(t *testing.T) {
	for _, s := range []string{"\u00e9", "\u00a0", "\u2013", "\u3000", "\uff50", "\U0001f600"} {
		checkSpoilt(t, s, 0, api.ErrChar)
		checkSpoilt(t, "{p"+s, 2, api.ErrChar)
		checkSpoilt(t, "{"+s, 0, api.ErrForm)
	}
}

// Of several faults the first one is told, of whichever kind it is.
func TestOfSeveralFaults(t *testing.T) {
	checkSpoilt(t, "~{q", 0, api.ErrChar)
	checkSpoilt(t, "{q~", 0, api.ErrForm)
	checkSpoilt(t, "{~", 0, api.ErrForm)
	checkSpoilt(t, "a~{q{r~", 1, api.ErrChar)
	checkSpoilt(t, "a{q~a{", 1, api.ErrForm)
	checkSpoilt(t, "{p ~~", 3, api.ErrChar)
	checkSpoilt(t, "{p {{{", 3, api.ErrForm)
	checkSpoilt(t, "}\x00{", 1, api.ErrChar)
}

func TestOfMaxSource(t *testing.T) {
	most := strings.Repeat("a", api.MaxSource)
	checkOf(t, most, text(most, 0))
	checkSpoilt(t, most+"a", 0, api.ErrBound)
	checkSpoilt(t, most+"~", 0, api.ErrBound)
	checkSpoilt(t, most+"{", 0, api.ErrBound)
	checkSpoilt(t, "~"+most, 0, api.ErrBound)
	checkSpoilt(t, "a{q"+most, 0, api.ErrBound)
	checkSpoilt(t, strings.Repeat(most, 20), 0, api.ErrBound)
	checkSpoilt(t, most[1:]+"~", api.MaxSource-1, api.ErrChar)
	checkSpoilt(t, most[1:]+"{", api.MaxSource-1, api.ErrForm)
	checkSpoilt(t, most[2:]+"{h", api.MaxSource-2, api.ErrForm)
	checkOf(t, most[2:]+"{p", text(most[2:], 0), open('p', api.MaxSource-2))
}

func TestOfMaxSourceOfSmallParts(t *testing.T) {
	for _, x := range []struct {
		part string
		want []api.Lex
	}{
		{"}", []api.Lex{closing(0)}},
		{"{k", []api.Lex{open('k', 0)}},
		{"a}", []api.Lex{text("a", 0), closing(1)}},
		{"{k}\n", []api.Lex{open('k', 0), closing(2), text("\n", 3)}},
	} {
		var want []api.Lex
		for from := 0; from < api.MaxSource; from += len(x.part) {
			for _, one := range x.want {
				one.At += from
				want = append(want, one)
			}
		}
		s := strings.Repeat(x.part, api.MaxSource/len(x.part))
		checkOf(t, s, want...)
		checkSpoilt(t, s+"}", 0, api.ErrBound)
	}
}

// part is each of the document's three kinds, as a pattern.
var part = regexp.MustCompile(`^(?:(\{(?:h[123]|[plitrcnesk])[ \n]?)|(\})|([a-zA-Z0-9.,;:!?'"()/ \n-]+))`)

// parse says the document's words on all of a source, by patterns.
func parse(s string) (l []api.Lex, at int, e api.Errno) {
	for at < len(s) {
		m := part.FindStringSubmatch(s[at:])
		switch {
		case m == nil && s[at] == '{':
			return nil, at, api.ErrForm
		case m == nil:
			return nil, at, api.ErrChar
		case m[1] != "":
			name := strings.TrimRight(m[1], " \n")
			l = append(l, open(name[len(name)-1], at))
		case m[2] != "":
			l = append(l, closing(at))
		default:
			l = append(l, text(m[3], at))
		}
		at += len(m[0])
	}
	return l, 0, api.OK
}

func TestOfShortTexts(t *testing.T) {
	for _, x := range []struct {
		alphabet string
		most     int
	}{
		{"{}p a\n~", 6},
		{"{h13 \n", 6},
		{"{}eskA{\xff", 5},
		{"{}h123plitrcneskqH4/(\"- \n\t\x00~\x80", 3},
	} {
		for s := range trial.Texts(x.alphabet, x.most) {
			want, place, err := parse(s)
			if err == api.OK {
				checkOf(t, s, want...)
			} else {
				checkSpoilt(t, s, place, err)
			}
		}
	}
}

// What is answered is the caller's: what he makes of it is not seen by the next call, and no text is a piece of the source.
func TestOfAnswersNewMemory(t *testing.T) {
	s := "{p some text{e of it} and more}"
	l := read(t, s)
	want := slices.Clone(l)
	clear(l)
	checkOf(t, s, want...)
	from := uintptr(unsafe.Pointer(unsafe.StringData(s)))
	for _, x := range want {
		if x.Kind != api.LexText {
			continue
		}
		if at := uintptr(unsafe.Pointer(unsafe.StringData(x.Text))); at >= from && at < from+uintptr(len(s)) {
			t.Errorf("the text at %d shares the source's memory", x.At)
		}
	}
}

// P3.2

func TestNameOfEachByte(t *testing.T) {
	for i := range 256 {
		want := ""
		if strings.IndexByte(letters, byte(i)) >= 0 {
			want = nameOf(byte(i))
		}
		if got := lex.Name(byte(i)); got != want {
			t.Errorf("Name(%q) = %q, want %q", byte(i), got, want)
		}
	}
}

func TestLetters(t *testing.T) {
	if got := lex.Letters(); got != letters {
		t.Errorf("Letters() = %q", got)
	}
	for i := range len(letters) {
		if got := lex.Name(lex.Letters()[i]); got != names[i] {
			t.Errorf("letter %d is that of %q, want %q", i, got, names[i])
		}
	}
}

// P3.3

// sized is how many bytes of a source each part takes, by where the next one begins.
func sized(s string, l []api.Lex) []int {
	var sizes []int
	for i := range l {
		end := len(s)
		if i+1 < len(l) {
			end = l[i+1].At
		}
		sizes = append(sizes, end-l[i].At)
	}
	return sizes
}

// written is each part as it stands; where an opening takes a byte more than its name, that is the white byte given.
func written(x api.Lex, size int, white string) string {
	switch x.Kind {
	case api.LexText:
		return x.Text
	case api.LexClose:
		return "}"
	}
	s := "{" + nameOf(x.Name)
	if size > len(s) {
		s += white
	}
	return s
}

// checkWritten asks that what is read, written, is the source, and that each part has its kind's fields alone.
func checkWritten(t *testing.T, s string, l []api.Lex) {
	t.Helper()
	out := ""
	for i, size := range sized(s, l) {
		x := l[i]
		if x.At != len(out) {
			t.Fatalf("%q: part %d at %d, not at %d", s, i, x.At, len(out))
		}
		if (x.Kind == api.LexText) != (x.Text != "") || (x.Kind == api.LexOpen) != (x.Name != 0) {
			t.Fatalf("%q: part %d is %v", s, i, x)
		}
		if i > 0 && x.Kind == api.LexText && l[i-1].Kind == api.LexText {
			t.Fatalf("%q: two texts side by side, %v", s, l)
		}
		white := s[x.At+size-1 : x.At+size]
		if strings.Trim(white, " \n") != "" {
			white = ""
		}
		out += written(x, size, white)
	}
	if out != s {
		t.Fatalf("%q is written as %q", s, out)
	}
}

func TestWrittenIsTheSource(t *testing.T) {
	n := 0
	for _, alphabet := range []string{"{}p \na", "{h1 }\n", "{}k{e~."} {
		for s := range trial.Texts(alphabet, 6) {
			if l, _, e := lex.Of(s); e == api.OK {
				n++
				checkWritten(t, s, l)
			}
		}
	}
	if n == 0 {
		t.Fatal("no source was read")
	}
}

func TestWrittenIsTheSourceOfAllNames(t *testing.T) {
	s := ""
	for _, name := range names {
		for _, behind := range []string{"", " ", "\n", "  ", "\n\n", "a", " a", "}", "}a", " }", "\n}\n"} {
			s += "{" + name + behind
		}
	}
	checkWritten(t, s, read(t, s))
}

// P3.4

// joined is, by the document's words, what two sources that are read are one behind the other.
func joined(a string, l, m []api.Lex) []api.Lex {
	out := slices.Clone(l)
	for _, x := range m {
		x.At += len(a)
		out = append(out, x)
	}
	n := len(l)
	if n == 0 || len(m) == 0 || m[0].Kind != api.LexText {
		return out
	}
	last, next := &out[n-1], &out[n]
	switch {
	case last.Kind == api.LexText:
		last.Text += next.Text
		next.Text = ""
	case last.Kind == api.LexOpen && last.At+1+len(nameOf(last.Name)) == len(a) && strings.Contains(" \n", next.Text[:1]):
		next.Text = next.Text[1:]
		next.At++
	}
	if next.Text == "" {
		out = slices.Delete(out, n, n+1)
	}
	return out
}

// completed tells whether a source is spoilt by no more than its end, and what stands behind is a name's rest.
func completed(a, b string, place int) bool {
	ahead := a[place:]
	if ahead != "{" && ahead != "{h" {
		return false
	}
	return slices.ContainsFunc(names, func(name string) bool { return strings.HasPrefix(ahead+b, "{"+name) })
}

func checkParted(t *testing.T, a, b string) {
	t.Helper()
	l, place, err := lex.Of(a)
	m, further, err2 := lex.Of(b)
	switch {
	case err != api.OK && completed(a, b, place):
	case err != api.OK:
		checkSpoilt(t, a+b, place, err)
	case err2 != api.OK:
		checkSpoilt(t, a+b, len(a)+further, err2)
	default:
		checkOf(t, a+b, joined(a, l, m)...)
	}
}

func TestPartedShortTexts(t *testing.T) {
	for _, x := range []struct {
		alphabet string
		most     int
	}{
		{"{}p a\n~", 3},
		{"{h1 }", 4},
	} {
		all := slices.Collect(trial.Texts(x.alphabet, x.most))
		for _, a := range all {
			for _, b := range all {
				checkParted(t, a, b)
			}
		}
	}
}

func TestPartedAtEachPlace(t *testing.T) {
	s := "{h1 A}{p a b{n \n x y} (c)}\n{l{i a}\n{i\nb{l{i c}}}} {t{r{c1}{c 2}}}{k}{h2}{h3\n\n}{p{e{s!}}}"
	whole := read(t, s)
	for i := range len(s) + 1 {
		checkParted(t, s[:i], s[i:])
	}
	checkParted(t, s, s)
	checkOf(t, s, whole...)
}

// A place that is spoilt stays so, whatever stands behind; but a { at the end waits for its name.
func TestPartedSpoilt(t *testing.T) {
	for _, behind := range []string{"", "a", "p", "1", " ", "}", "{p}", "~", "{", "{q", "\xff", strings.Repeat("a", 8000)} {
		checkSpoilt(t, "{p a~"+behind, 4, api.ErrChar)
		checkSpoilt(t, "{q"+behind, 0, api.ErrForm)
		checkSpoilt(t, "a{h4"+behind, 1, api.ErrForm)
		checkSpoilt(t, "} { "+behind, 2, api.ErrForm)
	}
	checkOf(t, "{"+"p", open('p', 0))
	checkOf(t, "{h"+"1", open('1', 0))
	checkSpoilt(t, "{"+"h", 0, api.ErrForm)
	checkSpoilt(t, "a~"+strings.Repeat("a", api.MaxSource), 0, api.ErrBound)
	checkSpoilt(t, strings.Repeat("a", api.MaxSource+1)+"~", 0, api.ErrBound)
}
