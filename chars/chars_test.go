package chars_test

import (
	"slices"
	"strings"
	"testing"

	"stylus/api"
	"stylus/chars"
	"stylus/trial"
)

// Each class's bytes are written out here, so that no test leans on the program's own table.
const (
	smalls   = "abcdefghijklmnopqrstuvwxyz"
	capitals = "ABCDEFGHIJKLMNOPQRSTUVWXYZ"
	digits   = "0123456789"
	marks    = ".,;:!?'\"-()/"
)

func classOf(c byte) int {
	for class, members := range map[int]string{
		api.ClassLower: smalls,
		api.ClassUpper: capitals,
		api.ClassDigit: digits,
		api.ClassMark:  marks,
		api.ClassSpace: " ",
		api.ClassLine:  "\n",
	} {
		if strings.IndexByte(members, c) >= 0 {
			return class
		}
	}
	return api.ClassNone
}

// lowOf is a text with small letters for its capitals, byte by byte.
func lowOf(s string) string {
	out := make([]byte, 0, len(s))
	for i := 0; i < len(s); i++ {
		c := s[i]
		if at := strings.IndexByte(capitals, c); at >= 0 {
			c = smalls[at]
		}
		out = append(out, c)
	}
	return string(out)
}

// run is what Runs tells of one run.
type run struct {
	at   int
	text string
}

func runsOf(s string) []run {
	var l []run
	for at, text := range chars.Runs(s) {
		l = append(l, run{at, text})
	}
	return l
}

// P1.1

func TestClassExamples(t *testing.T) {
	for c, want := range map[byte]int{'a': 1, 'Z': 2, '7': 3, '/': 4, ' ': 5, '\n': 6, '{': 0} {
		if got := chars.Class(c); got != want {
			t.Errorf("Class(%q) = %d, want %d", c, got, want)
		}
	}
}

func TestClassOfEachByte(t *testing.T) {
	for i := range 256 {
		c := byte(i)
		if got, want := chars.Class(c), classOf(c); got != want {
			t.Errorf("Class(%#x) = %d, want %d", c, got, want)
		}
	}
}

// The bytes on both sides of each class's rows are of other classes.
func TestClassAtTheEdges(t *testing.T) {
	for _, x := range []struct {
		first, last byte
		class       int
		under, over int
	}{
		{'a', 'z', api.ClassLower, api.ClassNone, api.ClassNone},
		{'A', 'Z', api.ClassUpper, api.ClassNone, api.ClassNone},
		{'0', '9', api.ClassDigit, api.ClassMark, api.ClassMark},
		{'!', '"', api.ClassMark, api.ClassSpace, api.ClassNone},
		{'\'', ')', api.ClassMark, api.ClassNone, api.ClassNone},
		{',', '/', api.ClassMark, api.ClassNone, api.ClassDigit},
		{':', ';', api.ClassMark, api.ClassDigit, api.ClassNone},
		{'?', '?', api.ClassMark, api.ClassNone, api.ClassNone},
		{' ', ' ', api.ClassSpace, api.ClassNone, api.ClassMark},
		{'\n', '\n', api.ClassLine, api.ClassNone, api.ClassNone},
	} {
		got := []int{chars.Class(x.first - 1), chars.Class(x.first), chars.Class(x.last), chars.Class(x.last + 1)}
		if want := []int{x.under, x.class, x.class, x.over}; !slices.Equal(got, want) {
			t.Errorf("around %q to %q: %v, want %v", x.first, x.last, got, want)
		}
	}
}

func TestIsWhiteLetterOfEachByte(t *testing.T) {
	for i := range 256 {
		c := byte(i)
		is := strings.IndexByte(smalls+capitals+digits+marks+" ", c) >= 0
		white := c == ' ' || c == '\n'
		letter := strings.IndexByte(smalls+capitals, c) >= 0
		if chars.Is(c) != is {
			t.Errorf("Is(%#x) = %v", c, !is)
		}
		if chars.White(c) != white {
			t.Errorf("White(%#x) = %v", c, !white)
		}
		if chars.Letter(c) != letter {
			t.Errorf("Letter(%#x) = %v", c, !letter)
		}
	}
}

// P1.2

func TestLowerAndUpperExamples(t *testing.T) {
	if got := chars.Lower('Q'); got != 'q' {
		t.Errorf("Lower('Q') = %q", got)
	}
	if got := chars.Upper('q'); got != 'Q' {
		t.Errorf("Upper('q') = %q", got)
	}
	if got := chars.Lower('?'); got != '?' {
		t.Errorf("Lower('?') = %q", got)
	}
}

func TestLowerAndUpperOfEachByte(t *testing.T) {
	for i := range 256 {
		c := byte(i)
		lower, upper := c, c
		if at := strings.IndexByte(capitals, c); at >= 0 {
			lower = smalls[at]
		}
		if at := strings.IndexByte(smalls, c); at >= 0 {
			upper = capitals[at]
		}
		if got := chars.Lower(c); got != lower {
			t.Errorf("Lower(%#x) = %#x, want %#x", c, got, lower)
		}
		if got := chars.Upper(c); got != upper {
			t.Errorf("Upper(%#x) = %#x, want %#x", c, got, upper)
		}
	}
}

func TestLow(t *testing.T) {
	for s, want := range map[string]string{
		"":                 "",
		"Q":                "q",
		"q":                "q",
		"AbC-1{":           "abc-1{",
		"@AZ[`az{":         "@az[`az{",
		" A\nB ":           " a\nb ",
		"\x00\xc1\xe1\xff": "\x00\xc1\xe1\xff",
		"\u00c4A\u212a":    "\u00c4a\u212a",
	} {
		if got := chars.Low(s); got != want {
			t.Errorf("Low(%q) = %q, want %q", s, got, want)
		}
	}
}

func TestLowOfEachByte(t *testing.T) {
	for i := range 256 {
		s := string([]byte{'X', byte(i), 'y'})
		if got, want := chars.Low(s), lowOf(s); got != want {
			t.Errorf("Low(%q) = %q, want %q", s, got, want)
		}
	}
}

// P1.3

func TestCaseExamples(t *testing.T) {
	for s, want := range map[string]int{
		"ab": api.CaseLower,
		"Ab": api.CaseFirst,
		"A":  api.CaseFirst,
		"AB": api.CaseAll,
		"aB": api.CaseMixed,
		"a1": api.CaseNone,
		"":   api.CaseNone,
	} {
		if got := chars.Case(s); got != want {
			t.Errorf("Case(%q) = %d, want %d", s, got, want)
		}
	}
}

func TestCaseOfEachByteAlone(t *testing.T) {
	for i := range 256 {
		c := byte(i)
		want := api.CaseNone
		switch {
		case strings.IndexByte(smalls, c) >= 0:
			want = api.CaseLower
		case strings.IndexByte(capitals, c) >= 0:
			want = api.CaseFirst
		}
		if got := chars.Case(string([]byte{c})); got != want {
			t.Errorf("Case of %#x alone = %d, want %d", c, got, want)
		}
	}
}

// caseOf says the document's words one by one, without counting runs.
func caseOf(s string) int {
	if s == "" || strings.Trim(s, smalls+capitals) != "" {
		return api.CaseNone
	}
	if strings.Trim(s, smalls) == "" {
		return api.CaseLower
	}
	if strings.Contains(capitals, s[:1]) && strings.Trim(s[1:], smalls) == "" {
		return api.CaseFirst
	}
	if len(s) >= 2 && strings.Trim(s, capitals) == "" {
		return api.CaseAll
	}
	return api.CaseMixed
}

func TestCaseOfShortTexts(t *testing.T) {
	for s := range trial.Texts("amzAMZ", 4) {
		if got, want := chars.Case(s), caseOf(s); got != want {
			t.Errorf("Case(%q) = %d, want %d", s, got, want)
		}
	}
}

// One byte that is no letter, at any place, and the text has no case.
func TestCaseOfWhatIsNoLetter(t *testing.T) {
	for i := range 256 {
		c := byte(i)
		if classOf(c) == api.ClassLower || classOf(c) == api.ClassUpper {
			continue
		}
		other := string([]byte{c})
		for _, s := range []string{other + "ab", "a" + other + "b", "ab" + other, other + "AB", "A" + other, other + other} {
			if got := chars.Case(s); got != api.CaseNone {
				t.Errorf("Case(%q) = %d", s, got)
			}
		}
	}
}

func TestMarks(t *testing.T) {
	if got := chars.Marks(); got != marks {
		t.Errorf("Marks() = %q", got)
	}
	if n := len(chars.Marks()); n != 12 {
		t.Errorf("%d marks", n)
	}
}

// P1.4

func TestRunsExamples(t *testing.T) {
	for s, want := range map[string][]run{
		"ab1.2":            {{0, "ab"}, {2, "1"}, {3, "."}, {4, "2"}},
		"":                 nil,
		"a":                {{0, "a"}},
		"Ab":               {{0, "A"}, {1, "b"}},
		" \n\n ":           {{0, " "}, {1, "\n\n"}, {3, " "}},
		"{~}\x00\xff":      {{0, "{~}\x00\xff"}},
		"a{B}":             {{0, "a"}, {1, "{"}, {2, "B"}, {3, "}"}},
		"(\"a-b!\")":       {{0, "(\""}, {2, "a"}, {3, "-"}, {4, "b"}, {5, "!\")"}},
		"\u00e4\u00e4zz09": {{0, "\u00e4\u00e4"}, {4, "zz"}, {6, "09"}},
	} {
		if got := runsOf(s); !slices.Equal(got, want) {
			t.Errorf("Runs(%q): %v, want %v", s, got, want)
		}
	}
}

// What is left at a run has told just the runs up to it, and can be gone over anew.
func TestRunsLeftAtAnyOfThem(t *testing.T) {
	for _, s := range []string{"", "a", "aaa", "ab1.2 C\n{x", "a1a1a1", "{}"} {
		all := runsOf(s)
		runs := chars.Runs(s)
		for most := 1; most <= len(all); most++ {
			var told []run
			for at, text := range runs {
				told = append(told, run{at, text})
				if len(told) == most {
					break
				}
			}
			if !slices.Equal(told, all[:most]) {
				t.Errorf("%q left at run %d: %v", s, most, told)
			}
		}
	}
}

// A function that says no is not asked again.
func TestRunsEndWhenTold(t *testing.T) {
	for most := 1; most <= 4; most++ {
		calls := 0
		chars.Runs("ab1.2")(func(int, string) bool {
			calls++
			return calls < most
		})
		if calls != most {
			t.Errorf("%d calls, but run %d said no", calls, most)
		}
	}
}

func TestRunsWithinRuns(t *testing.T) {
	runs := chars.Runs("a1")
	n := 0
	for range runs {
		for range runs {
			n++
		}
	}
	if n != 4 {
		t.Errorf("%d runs within runs, want 4", n)
	}
}

// P1.5

// checkParted looks whether runs are the text, each of one class, and unlike the one ahead.
func checkParted(t *testing.T, s string) {
	t.Helper()
	end := 0
	ahead := -1
	for at, text := range chars.Runs(s) {
		if at != end || text == "" || !strings.HasPrefix(s[end:], text) {
			t.Fatalf("%q: run %q at %d, where %d bytes are told", trial.Shown(s), trial.Shown(text), at, end)
		}
		class := classOf(text[0])
		if class == ahead {
			t.Fatalf("%q: the run at %d is of the class of the one ahead", trial.Shown(s), at)
		}
		for i := 1; i < len(text); i++ {
			if classOf(text[i]) != class {
				t.Fatalf("%q: the run at %d is of two classes", trial.Shown(s), at)
			}
		}
		end += len(text)
		ahead = class
	}
	if end != len(s) {
		t.Fatalf("%q: its runs end at %d", trial.Shown(s), end)
	}
}

func TestPartedShortTexts(t *testing.T) {
	for s := range trial.Texts("azB7./ \n{\xff", 4) {
		checkParted(t, s)
	}
}

func TestPartedPairsOfBytes(t *testing.T) {
	for i := range 256 {
		for k := range 256 {
			checkParted(t, string([]byte{byte(i), byte(k)}))
		}
	}
}

func TestPartedLongText(t *testing.T) {
	long := strings.Repeat("a", 70000)
	checkParted(t, long)
	checkParted(t, long+"B"+long)
	if n := len(runsOf(strings.Repeat("a1", 35000))); n != 70000 {
		t.Errorf("%d runs", n)
	}
}

// P1.6

func TestLoweredTwiceIsLoweredOnce(t *testing.T) {
	for i := range 256 {
		c := byte(i)
		if once := chars.Lower(c); chars.Lower(once) != once {
			t.Errorf("%#x lowered twice is %#x", c, chars.Lower(once))
		}
	}
	for s := range trial.Texts("aZ1. \n{\xc1", 4) {
		if once := chars.Low(s); chars.Low(once) != once {
			t.Errorf("%q lowered twice is %q", s, chars.Low(once))
		}
	}
}

func TestSmallOneHasItsCapital(t *testing.T) {
	for i := range len(capitals) {
		c := capitals[i]
		small := chars.Lower(c)
		if small == c || chars.Upper(small) != c {
			t.Errorf("%q has the small one %q, and that the capital %q", c, small, chars.Upper(small))
		}
	}
}

func TestLowOfLettersIsLower(t *testing.T) {
	for s := range trial.Texts("amzAMZ", 4) {
		if got := chars.Case(chars.Low(s)); s != "" && got != api.CaseLower {
			t.Errorf("Case of Low(%q) = %d", s, got)
		}
	}
	if got := chars.Case(chars.Low(capitals + smalls)); got != api.CaseLower {
		t.Errorf("Case of all letters, lowered = %d", got)
	}
}
