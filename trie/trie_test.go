package trie_test

import (
	"math"
	"slices"
	"strings"
	"testing"

	"stylus/api"
	"stylus/check"
	"stylus/trial"
	"stylus/trie"
)

// P10.1

// checkRefused asks for an error, with its line, and for nothing else.
func checkRefused(t *testing.T, l []api.Rule, line int, e api.Errno) {
	t.Helper()
	if tr, number, err := trie.New(l); tr != nil || number != line || err != e {
		t.Errorf("New of %d rules: %v, %d, %d, want %d, %d", len(l), tr != nil, number, err, line, e)
	}
}

func TestNewOfAccepted(t *testing.T) {
	for _, l := range tables() {
		if a := ready(t, l); !slices.Equal(a.Rules(), l) {
			t.Errorf("Rules: %v", a.Rules())
		}
	}
}

func TestNewOfNothing(t *testing.T) {
	checkRefused(t, nil, 0, api.ErrTable)
	checkRefused(t, []api.Rule{}, 0, api.ErrTable)
}

// Each one that is wanted is missing.
func TestNewWithoutOne(t *testing.T) {
	for _, l := range tables() {
		for i := range trial.PlainRules {
			checkRefused(t, slices.Delete(slices.Clone(l), i, i+1), 0, api.ErrTable)
		}
	}
}

// A rule that may not be, or not stand alone, or clashes with one ahead, behind what is wanted.
func TestNewOfWrongRules(t *testing.T) {
	for _, x := range []api.Rule{
		{}, {What: 9, Left: "ab", Cells: "\x21"}, {What: 1, Cells: "\x21"}, {What: 1, Left: "ab"},
		{What: 1, Left: "ab", Cells: "\x40"}, {What: 1, Left: "ab", Cells: "\x21\x00"}, {What: 1, Left: "ab", Cells: "\x21\x21\x21\x21\x21"},
		{What: 1, Left: "Ab", Cells: "\x21"}, {What: 1, Left: "ab", Cells: "\x21", Prio: 100}, {What: 5, Left: "ab", Cells: "\x21", Prio: -1},
		{What: 8, Left: "x", Cells: "\x21"}, {What: 6, Left: "..", Cells: "\x21"}, {What: 7, Left: "1", Cells: "\x21\x21"},
		{What: 1, Left: "a", Cells: "\x21"}, {What: 8, Left: "cap", Cells: "\x21"}, {What: 1, Left: "ab", Cells: "\x01"}, {What: 2, Left: "ab", Cells: "\x01\x02"},
		{What: 3, Left: "ab", Cells: "\x18"}, {What: 4, Left: "ab", Cells: "\x32"}, {What: 5, Left: "ab", Cells: "\x20\x01"}, {What: 5, Left: "ab", Cells: "\x01\x08"},
	} {
		for _, line := range []int{0, 1, -5, 77, math.MaxInt, math.MinInt} {
			x.Line = line
			checkRefused(t, append(trial.Table(), x), line, api.ErrTable)
			checkRefused(t, append(trial.Full(), x), line, api.ErrTable)
		}
	}
}

// Of two rules that clash the one behind is told, with its own line.
func TestNewOfClashes(t *testing.T) {
	for _, x := range [][2]string{
		{"word ab 12 1", "word ba 12 1"}, {"any ab 16 1", "end cd 16-1 1"}, {"begin ab 16-1-2 1", "any cd 16 1"}, {"inner ab 16 1", "inner ab 156 1"},
	} {
		for _, order := range [][2]int{{0, 1}, {1, 0}} {
			one, other := x[order[0]], x[order[1]]
			ready(t, trial.Table(one))
			ready(t, trial.Table(other))
			checkRefused(t, trial.Table(one, other), trial.PlainRules+2, api.ErrTable)
			checkRefused(t, trial.Lines("#", one, other, trial.Plain), 3, api.ErrTable)
		}
	}
}

// As many rules as may be; one more; and what comes ahead of that, and behind it.
func TestNewOfMany(t *testing.T) {
	whole, lacking := trial.Fill(trial.Ordinary(), 401), trial.Fill(trial.Lines(trial.More), 401)
	ready(t, whole[:400])
	checkRefused(t, whole, 0, api.ErrBound)
	checkRefused(t, lacking, 0, api.ErrBound)
	checkRefused(t, lacking[:400], 0, api.ErrTable)
	last := whole[0]
	last.Line = -9
	checkRefused(t, append(whole, last), -9, api.ErrTable)
	checkRefused(t, append(lacking, api.Rule{Line: 5000}), 5000, api.ErrTable)
}

// An ordinary table with one rule as another one: what layer 9 says of it is answered.
func TestNewSpoilt(t *testing.T) {
	l, seen := trial.Ordinary(), map[api.Errno]int{}
	others := trial.Lines("any ab 16 1", "begin ab 16-1 1", "end ab 5-5 1", "word ab 12-45 1", "digit 1 16", "mark . 16", "sign cap 16")
	for i, x := range l {
		for k, y := range append(others, l[i/2], l[len(l)-1-i/2], l[i*7%len(l)]) {
			for _, z := range []api.Rule{y, {What: y.What, Left: x.Left, Cells: x.Cells}, {What: x.What, Left: y.Left, Cells: x.Cells}, {What: x.What, Left: x.Left, Cells: y.Cells}} {
				z.Line = 1000 + k
				spoilt := slices.Concat(l[:i], []api.Rule{z}, l[i+1:])
				line, e := check.Table(spoilt)
				seen[e]++
				if e == api.OK {
					ready(t, spoilt)
				} else {
					checkRefused(t, spoilt, line, e)
				}
			}
		}
	}
	if seen[api.OK] < 100 || seen[api.ErrTable] < 1000 || len(seen) != 2 {
		t.Errorf("%v", seen)
	}
}

// P10.2: Match

// example is the table of the chapter's examples.
func example() []api.Rule { return trial.Table("word but 12 0", "word can 14 0") }

func TestExamples(t *testing.T) {
	a := ready(t, example())
	for _, x := range []struct {
		cells         string
		at, row, what int
		left          string
	}{
		{"\x01\x03", 0, 1, 1, "a"},
		{"\x01\x03", 1, 2, 1, "b"},
		{"\x01", 0, 3, 7, "1"},
		{"\x01", 1, 1, 0, ""},
		{"\x01", 0, 4, 0, ""},
	} {
		if y, ok := a.match(x.cells, x.at, x.row); ok != (x.what > 0) || y.What != x.what || y.Left != x.left {
			t.Errorf("Match(%q, %d, %d): %v, %v", x.cells, x.at, x.row, y, ok)
		}
	}
	rule, ok := a.Word("\x03")
	a.same(rule, ok, trial.PlainRules, true, "Word(3)")
	rule, ok = a.Word("\x3f")
	a.same(rule, ok, 0, false, "Word(63)")
}

// What stands for several things stands for the row's, which are the numbers of the rules in their order.
func TestMatchOfRows(t *testing.T) {
	a := ready(t, trial.Table("begin con 46-14 5", "inner ea 46-14 5", "begin ab 56-1 5", "end ness 56-1 3", "word but 46-14 0"))
	for _, x := range []struct {
		cells string
		want  [3]int // by the rows from 1 on; below 0: none
	}{
		{"\x01", [3]int{0, 0, 39}},       // a, a, 1
		{"\x1a", [3]int{9, 9, 38}},       // j, j, 0
		{"\x32", [3]int{26, 26, 26}},     // the mark .
		{"\x10\x26", [3]int{33, 33, 33}}, // the mark "
		{"\x20", [3]int{48, 48, 48}},     // cap
		{"\x3f", [3]int{-1, -1, -1}},
		{"\x2d", [3]int{23, 23, -1}}, // x
		{"\x28\x09", [3]int{61, 62, -1}},
		{"\x30\x01", [3]int{63, 64, -1}},
		{"\x30\x30", [3]int{51, 51, 51}}, // let
		{"\x30", [3]int{-1, -1, -1}},
	} {
		for i, want := range x.want {
			rule, ok := a.Match(x.cells, 0, i+1)
			a.same(rule, ok, max(want, 0), want >= 0, "Match(%q, 0, %d)", x.cells, i+1)
		}
	}
}

// Each rule, at each place of its cells, with others ahead of it and behind it.
func TestMatchOfEachRule(t *testing.T) {
	for _, l := range tables() {
		a := ready(t, l)
		for _, x := range l {
			for _, ahead := range []string{"", "\x01", "\x00", "\x3f\x3f\x3f", "\xff"} {
				for _, behind := range []string{"", "\x01", "\x00", x.Cells, "\x3f\x3f\x3f\x3f\x3f", "\xff"} {
					cells := ahead + x.Cells + behind
					for row := 1; row <= 3; row++ {
						if y, ok := a.match(cells, len(ahead), row); trial.InRow(x, row) && (!ok || y != x) {
							t.Errorf("%v is not told, but %v", x, y)
						}
						for at := -1; at <= len(cells)+1; at++ {
							a.match(cells, at, row)
						}
					}
				}
			}
		}
	}
}

// Cells that end within a rule's have it not; nor have those of which one is another.
func TestMatchOfParts(t *testing.T) {
	ended := 0
	for _, l := range tables() {
		a := ready(t, l)
		for _, x := range l {
			for row := 1; row <= 3; row++ {
				for i := range len(x.Cells) {
					if _, ok := a.match(x.Cells[:i], 0, row); trial.InRow(x, row) && !ok {
						ended++
					}
					for _, c := range []string{"\x00", "\x01", "\x21", "\x3f", "\x40", "\xff", string([]byte{x.Cells[i] | 0x40}), string([]byte{x.Cells[i] | 0x80})} {
						a.match(x.Cells[:i]+c+x.Cells[i+1:], 0, row)
						a.match(x.Cells[:i]+c+x.Cells[i:], 0, row)
					}
				}
			}
		}
	}
	if ended < 200 {
		t.Errorf("%d parts", ended)
	}
}

// In a row of another number is no rule.
func TestMatchOfOtherRows(t *testing.T) {
	for _, l := range tables() {
		a := ready(t, l)
		for _, row := range farNumbers {
			for _, x := range l {
				if _, ok := a.match(x.Cells, 0, row); ok {
					t.Errorf("row %d has %v", row, x)
				}
			}
		}
	}
}

// At a place below 0, or behind the last cell, is no rule, however far.
func TestMatchOfOtherPlaces(t *testing.T) {
	a := ready(t, trial.Ordinary())
	for row := 1; row <= 3; row++ {
		for size := range 6 {
			cells := strings.Repeat("\x32", size)
			for _, at := range append([]int{size - 1, size, size + 1}, farNumbers...) {
				if _, ok := a.match(cells, at, row); ok != (at >= 0 && at < size) {
					t.Errorf("Match(%q, %d, %d): %v", cells, at, row, ok)
				}
			}
		}
	}
}

func TestMatchOfNoCells(t *testing.T) {
	for _, l := range tables() {
		a := ready(t, l)
		for row := -1; row <= 5; row++ {
			for at := -1; at <= 1; at++ {
				rule, ok := a.Match("", at, row)
				a.same(rule, ok, 0, false, "Match of nothing, %d, %d", at, row)
			}
		}
	}
}

// Far from the beginning, and far from the end.
func TestMatchOfManyCells(t *testing.T) {
	a := ready(t, trial.Ordinary())
	blanks := strings.Repeat("\x00", 100000)
	for _, x := range a.rules {
		for row := 1; row <= 3; row++ {
			rule, ok := a.Match(blanks+x.Cells+blanks, len(blanks), row)
			want, wantOK := only(t, a.rules, func(y api.Rule) bool { return stands(y, x.Cells, 0, row) })
			a.same(rule, ok, want, wantOK, "Match of %v behind many blanks, %d", x, row)
			a.match(blanks, len(blanks)-1, row)
		}
	}
}

// alphabet is bytes with which rules begin, or go on, and some that no rule has.
const alphabet = "\x01\x05\x20\x28\x30\x09\x0e\x33\x00\x41"

// All single bytes, all pairs of cells, and all short texts of some cells.
func TestMatchWords(t *testing.T) {
	for _, l := range tables() {
		a := ready(t, l)
		seen := map[bool]int{}
		ask := func(cells string) {
			for row := 1; row <= 3; row++ {
				_, ok := a.match(cells, 0, row)
				seen[ok]++
				a.match(cells, len(cells)-1, row)
			}
			a.word(cells)
		}
		for c := range 256 {
			ask(string([]byte{byte(c)}))
			ask(string([]byte{0x30, byte(c)}))
		}
		for c := range 64 * 64 {
			ask(string([]byte{byte(c / 64), byte(c % 64)}))
		}
		for cells := range trial.Texts(alphabet, 3) {
			ask(cells)
		}
		if seen[true] < 1000 || seen[false] < 1000 {
			t.Errorf("%v", seen)
		}
	}
}

// Rules of four cells, that part at each of them.
func TestMatchOfLongRules(t *testing.T) {
	a := ready(t, trial.Table("any ab 56-1-1-1 1", "any cd 56-1-1-2 1", "begin ef 56-1-2 1", "inner ef 56-1-2-1 1", "end gh 56-2 1", "begin gh 56-2-1-1 1", "word ab 56 1", "word cd 56-1-1-1 1", "word ef 56-1 1", "word gh 56-2-1-1 1"))
	seen := map[string]bool{}
	for cells := range trial.Texts("\x01\x02", 4) {
		for row := 1; row <= 3; row++ {
			if x, ok := a.match("\x30"+cells, 0, row); ok {
				seen[x.Cells] = true
			}
		}
		if a.word("\x30" + cells) {
			seen["word "+cells] = true
		}
	}
	if len(seen) != 10 {
		t.Errorf("%v", seen)
	}
}

// P10.2: Word

func TestWordOfEachRule(t *testing.T) {
	for _, l := range tables() {
		a := ready(t, l)
		for _, x := range l {
			if is := a.word(x.Cells); x.What == 5 && !is {
				t.Errorf("%v is no word", x)
			}
			for i := range len(x.Cells) + 1 {
				a.word(x.Cells[:i])
				a.word(x.Cells[i:])
				for _, c := range []string{"\x01", "\x03", "\x20", "\x00", "\xff"} {
					a.word(x.Cells[:i] + c + x.Cells[i:])
				}
			}
			a.word(x.Cells + x.Cells)
		}
	}
}

// A word's cells with one more, which are another word's, or none's; cells of other rules.
func TestWord(t *testing.T) {
	a := ready(t, trial.Table("word but 12 0", "word can 14-1 0", "word do 14-1-1-2 9", "any and 12346 1", "end ness 56-234 3"))
	for cells, want := range map[string]string{
		"": "", "\x03": "but", "\x03\x03": "", "\x03\x01": "", "\x00\x03": "", "\x03\x00": "", "\x43": "", "\x83": "",
		"\x09": "", "\x09\x01": "can", "\x09\x01\x01": "", "\x09\x01\x01\x02": "do", "\x09\x01\x01\x02\x02": "", "\x01": "", "\x01\x01\x02": "", "\x01\x09": "",
		"\x2f": "", "\x30\x0e": "", "\x20": "", "\x20\x03": "", "\x32": "", "\x3f": "",
	} {
		rule, ok := a.Word(cells)
		if ok != (want != "") || ok && (rule < 0 || rule >= len(a.rules) || a.rules[rule].Left != want) || !ok && rule != 0 {
			t.Errorf("Word(%q): %d, %v, want %q", cells, rule, ok, want)
		}
	}
	a.word(strings.Repeat("\x03", 100000))
	none := ready(t, trial.Table())
	for _, x := range none.rules {
		if none.word(x.Cells) {
			t.Errorf("%v is a word", x)
		}
	}
}

// P10.3

// Each What with each Left, and such as no rule has.
func TestFind(t *testing.T) {
	for _, l := range tables() {
		a := ready(t, l)
		found := 0
		for _, left := range append(lefts(l), "", " ", "A", "but ", "bu", "butt", "capp", "e +", "+", "ab\x00", "\xff", "1 a", strings.Repeat("a", 100000)) {
			for what := -1; what <= 10; what++ {
				if a.find(what, left) {
					found++
				}
			}
			for _, what := range farNumbers {
				a.find(what, left)
			}
		}
		if found != len(l) {
			t.Errorf("%d of %d rules are found", found, len(l))
		}
	}
}

// lefts is what rules have, each once.
func lefts(l []api.Rule) []string {
	var all []string
	for _, x := range l {
		all = append(all, x.Left)
	}
	slices.Sort(all)
	return slices.Compact(all)
}

// One Left with each What of letters; a name as letters.
func TestFindOfOneLeft(t *testing.T) {
	a := ready(t, trial.Table("word cap 12 0", "begin cap 56-1 5", "inner cap 46-2 5", "any cap 16 5", "end cap 56-2 5"))
	for what, want := range []int{-1, 64, 62, 63, 65, 61, -1, -1, 48, -1} {
		rule, ok := a.Find(what, "cap")
		a.same(rule, ok, max(want, 0), want >= 0, "Find(%d, cap)", what)
	}
	if a.Sign("cap") != "\x20" {
		t.Errorf("Sign(cap): %q", a.Sign("cap"))
	}
}

func TestSign(t *testing.T) {
	signs := map[string]string{"cap": "\x20", "caps": "\x18\x20", "num": "\x3c", "let": "\x30\x30", "e+": "\x28\x01", "e-": "\x28\x04", "s+": "\x18\x01", "s-": "\x18\x04", "n+": "\x10\x01", "n-": "\x10\x04", "blk": "\x08", "cont": "\x38", "ind": "\x36"}
	for _, l := range tables() {
		a := ready(t, l)
		for name, want := range signs {
			if got := a.Sign(name); got != want {
				t.Errorf("Sign(%q): %q, want %q", name, got, want)
			}
		}
		for _, name := range append(lefts(l), "", "e", "+", "e+ ", "CAP", "ca", "capss", "blk\x00", "\xff", "sign cap", strings.Repeat("cap", 100000)) {
			if a.sign(name) != (signs[name] != "") {
				t.Errorf("Sign(%q)", trial.Shown(name))
			}
		}
	}
}

// The rules are told as they are, whatever their Lines.
func TestRules(t *testing.T) {
	for _, l := range tables() {
		for i, line := range []int{0, -1, math.MaxInt, math.MinInt, 7} {
			l[i*5].Line, l[i*7+1].Line = line, line
		}
		if got := ready(t, l).Rules(); !slices.Equal(got, l) {
			t.Errorf("%v", got)
		}
	}
}

// P10.4

func TestNobodys(t *testing.T) {
	for i, tr := range trial.Nobodys() {
		if got := tr.Rules(); len(got) != 0 {
			t.Errorf("%d: Rules: %v", i, got)
		}
		for _, cells := range []string{"", "\x00", "\x01", "\x32\x01", "\x30\x30", "\xff"} {
			for _, at := range append([]int{1, 2}, farNumbers...) {
				for _, row := range append([]int{1, 2, 3}, farNumbers...) {
					if rule, ok := tr.Match(cells, at, row); rule != 0 || ok {
						t.Errorf("%d: Match(%q, %d, %d): %d, %v", i, cells, at, row, rule, ok)
					}
				}
			}
			if rule, ok := tr.Word(cells); rule != 0 || ok {
				t.Errorf("%d: Word(%q): %d, %v", i, cells, rule, ok)
			}
		}
		for _, left := range []string{"", "a", ".", "1", "cap", "blk", "x"} {
			for what := -1; what <= 9; what++ {
				if rule, ok := tr.Find(what, left); rule != 0 || ok {
					t.Errorf("%d: Find(%d, %q): %d, %v", i, what, left, rule, ok)
				}
			}
			if got := tr.Sign(left); got != "" {
				t.Errorf("%d: Sign(%q): %q", i, left, got)
			}
		}
	}
}
