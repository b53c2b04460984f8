package rules_test

import (
	"math"
	"slices"
	"strings"
	"testing"

	"stylus/api"
	"stylus/rules"
	"stylus/trial"
)

func checkMay(t *testing.T, x api.Rule, want bool) {
	t.Helper()
	if got := rules.May(x); got != want {
		t.Fatalf("May(%d, %q, %q, %d) = %v", x.What, trial.Shown(x.Left), trial.Shown(x.Cells), x.Prio, got)
	}
}

// of is a rule by its What, with cells and a Prio that each What may have.
func of(what int, left string) api.Rule {
	return api.Rule{What: what, Left: left, Cells: "\x01"}
}

// P8.1: Names

func TestNames(t *testing.T) {
	if got := rules.Names(); !slices.Equal(got, names) {
		t.Errorf("%q", got)
	}
}

// P8.1: May

// Each Left that some What may have is asked of each What, and of what is none.
func TestMayOfEachWhat(t *testing.T) {
	var all []string
	for i := range 256 {
		b := string([]byte{byte(i)})
		all = append(all, b, b+b, "a"+b, b+"a")
	}
	all = append(all, names...)
	all = append(all, "", "and", "And", "AND", "an d", " a", "a ", "Cap", "CAP", " cap", "cap ", "ca", "capss", "e", "+e", "e +", "blk cont", "caf\u00e9", "a\x00b",
		smalls[:11], smalls[:12], smalls[:13], smalls, smalls[:11]+"B", strings.Repeat("z", 12), strings.Repeat("z", 13), strings.Repeat("z", 70000), strings.Repeat(".", 70000))
	for _, left := range all {
		for what := -1; what <= 10; what++ {
			x := of(what, left)
			checkMay(t, x, may(x))
		}
	}
	for _, what := range []int{math.MinInt, -8, 0, 9, 256 + 1, math.MaxInt} {
		for _, left := range []string{"a", ".", "7", "cap", ""} {
			checkMay(t, of(what, left), false)
		}
	}
}

// Each What with a Left that its row has, written out.
func TestMayPlain(t *testing.T) {
	for what := range 9 {
		for i := range len(smalls) {
			checkMay(t, of(what, smalls[i:i+1]), what >= 1 && what <= 5)
		}
		for size := 2; size <= 14; size++ {
			checkMay(t, of(what, strings.Repeat("q", size)), what >= 1 && what <= 5 && size <= 12)
		}
		for i := range len(marks) {
			checkMay(t, of(what, marks[i:i+1]), what == 6)
		}
		for i := range len(digits) {
			checkMay(t, of(what, digits[i:i+1]), what == 7)
		}
		for _, name := range names {
			isWord := !strings.ContainsAny(name, "+-")
			checkMay(t, of(what, name), what == 8 || isWord && what >= 1 && what <= 5)
		}
		for _, left := range []string{"", "A", "aB", "a1", "a.", "..", ".,", "12", "07", "e*", "cap+", "\n", " ", "\u00e9", "\xff"} {
			checkMay(t, of(what, left), false)
		}
	}
}

func TestMayOfPrios(t *testing.T) {
	for what, left := range []string{"a", "a", "a", "a", "a", "a", ".", "7", "cap"} {
		for _, prio := range []int{math.MinInt, -100, -1, 0, 1, 50, 98, 99, 100, 101, 256, 1 << 32, 1<<32 + 1, math.MaxInt} {
			x := of(what, left)
			x.Prio = prio
			switch {
			case what == 0:
				checkMay(t, x, false)
			case what <= 5:
				checkMay(t, x, prio >= 0 && prio <= 99)
			default:
				checkMay(t, x, prio == 0)
			}
		}
	}
}

func TestMayOfCells(t *testing.T) {
	for what := 1; what <= 8; what++ {
		left := []string{"", "a", "a", "a", "a", "a", ".", "7", "cap"}[what]
		for i := range 256 {
			c := string([]byte{byte(i)})
			right := i > 0 && i < 64
			for _, cells := range []string{c, c + "\x01", "\x3f" + c, "\x01\x02\x03" + c, c + c + c + c} {
				checkMay(t, api.Rule{What: what, Left: left, Cells: cells}, right)
			}
		}
		for size := range 8 {
			checkMay(t, api.Rule{What: what, Left: left, Cells: strings.Repeat("\x2a", size)}, size >= 1 && size <= 4)
		}
		checkMay(t, api.Rule{What: what, Left: left, Cells: strings.Repeat("\x2a", 70000)}, false)
	}
}

// Line may be anything.
func TestMayOfLines(t *testing.T) {
	for _, line := range []int{math.MinInt, -1, 0, 1, 65537, math.MaxInt} {
		x := of(api.RuleAny, "a")
		x.Line = line
		checkMay(t, x, true)
		x.Left = "A"
		checkMay(t, x, false)
	}
}

// P8.4: Sign, Mark, Digit

func TestFoundExamples(t *testing.T) {
	l := parse(t, "any and 12346 1\n# x\nmark . 256")
	if s := rules.Mark(l, '.'); s != "\x32" {
		t.Errorf("the mark: %q", s)
	}
	if s := rules.Sign(l, "cap"); s != "" {
		t.Errorf("the sign: %q", s)
	}
}

// Each of a table's signs, marks and digits is found, and nothing else.
func TestFoundEach(t *testing.T) {
	for _, text := range []string{rich, ordinary(), "", "any a 1 1\nword cap 1 1"} {
		l := parse(t, text)
		for i := range 256 {
			c := byte(i)
			wantMark, wantDigit := first(l, 6, string([]byte{c})), first(l, 7, string([]byte{c}))
			if m, d := rules.Mark(l, c), rules.Digit(l, c); m != wantMark || d != wantDigit {
				t.Errorf("%q: %q, %q, want %q, %q", c, m, d, wantMark, wantDigit)
			}
		}
		for _, name := range append([]string{"", "ca", "capss", "Cap", "a", ".", "7", "and", "e", "any"}, names...) {
			if s := rules.Sign(l, name); s != first(l, 8, name) {
				t.Errorf("%q: %q", name, s)
			}
		}
	}
}

// first says the document's words on what is found.
func first(l []api.Rule, what int, left string) string {
	for _, x := range l {
		if x.What == what && x.Left == left {
			return x.Cells
		}
	}
	return ""
}

// Rules of another What with the same Left are passed over, whatever they are.
func TestFoundPastOtherWhats(t *testing.T) {
	for what := -1; what <= 10; what++ {
		other := func(left string) api.Rule { return api.Rule{What: what, Left: left, Cells: "\x07"} }
		sought := func(what int, left string) api.Rule { return api.Rule{What: what, Left: left, Cells: "\x2f\x01"} }
		for _, x := range []struct {
			what int
			left string
			find func(l []api.Rule) string
		}{
			{8, "cap", func(l []api.Rule) string { return rules.Sign(l, "cap") }},
			{6, ".", func(l []api.Rule) string { return rules.Mark(l, '.') }},
			{7, "7", func(l []api.Rule) string { return rules.Digit(l, '7') }},
		} {
			if what == x.what {
				continue
			}
			if s := x.find([]api.Rule{other(x.left), sought(x.what, x.left)}); s != "\x2f\x01" {
				t.Errorf("behind What %d: %q", what, s)
			}
			if s := x.find([]api.Rule{sought(x.what, x.left), other(x.left)}); s != "\x2f\x01" {
				t.Errorf("ahead of What %d: %q", what, s)
			}
			if s := x.find([]api.Rule{other(x.left), other(x.left)}); s != "" {
				t.Errorf("of What %d alone: %q", what, s)
			}
		}
	}
}

// Of several that fit it is the first one's, whatever its Prio and Line are.
func TestFoundFirst(t *testing.T) {
	for _, x := range []struct {
		what int
		left string
		find func(l []api.Rule) string
	}{
		{8, "e+", func(l []api.Rule) string { return rules.Sign(l, "e+") }},
		{6, "-", func(l []api.Rule) string { return rules.Mark(l, '-') }},
		{7, "0", func(l []api.Rule) string { return rules.Digit(l, '0') }},
	} {
		a := api.Rule{What: x.what, Left: x.left, Cells: "\x01\x02", Prio: 9, Line: 3}
		b := api.Rule{What: x.what, Left: x.left, Cells: "\x03", Line: 1}
		c := api.Rule{What: x.what, Left: x.left + "x", Cells: "\x04"}
		none := api.Rule{What: x.what, Left: x.left}
		for _, y := range []struct {
			l    []api.Rule
			want string
		}{
			{[]api.Rule{a, b}, "\x01\x02"}, {[]api.Rule{b, a}, "\x03"}, {[]api.Rule{c, b, a}, "\x03"}, {[]api.Rule{c}, ""}, {nil, ""}, {[]api.Rule{}, ""}, {[]api.Rule{none, a}, ""},
		} {
			if s := x.find(y.l); s != y.want {
				t.Errorf("What %d: %q, want %q", x.what, s, y.want)
			}
		}
	}
}

// Rules that may not be are looked at like others; a Left is held against the byte, whether or not it is UTF-8.
func TestFoundOfAnyRules(t *testing.T) {
	l := []api.Rule{
		{What: 6, Left: "\u00e9", Cells: "\x01"}, {What: 6, Left: "\xe9", Cells: "\x02"}, {What: 7, Left: "\u00ff", Cells: "\x03"}, {What: 7, Left: "\xff", Cells: "\xff\x00"},
		{What: 6, Left: "", Cells: "\x05"}, {What: 6, Left: "\x00", Cells: "\x06"}, {What: 8, Left: "", Cells: "\x07"}, {What: 8, Left: "no name", Cells: strings.Repeat("\x08", 9)},
	}
	for want, got := range map[string]string{
		"\x02": rules.Mark(l, 0xe9), "\xff\x00": rules.Digit(l, 0xff), "\x06": rules.Mark(l, 0), "\x07": rules.Sign(l, ""), strings.Repeat("\x08", 9): rules.Sign(l, "no name"),
	} {
		if got != want {
			t.Errorf("%q, want %q", got, want)
		}
	}
	if rules.Digit(l, 0xe9) != "" || rules.Mark(l, 0xff) != "" || rules.Mark(l, 0xc3) != "" || rules.Sign(l, "cap") != "" {
		t.Error("something is found")
	}
}
