package check_test

import (
	"math"
	"slices"
	"strings"
	"testing"

	"stylus/api"
	"stylus/check"
	"stylus/trial"
)

// P9.1: Alone

func checkAlone(t *testing.T, x api.Rule, want bool) {
	t.Helper()
	if got := check.Alone(x); got != want {
		t.Errorf("Alone(%#v): %v", x, got)
	}
}

func TestAloneExamples(t *testing.T) {
	checkAlone(t, trial.Lines("sign ind 2356")[0], true)
	checkAlone(t, trial.Lines("sign ind 2356-1")[0], false)
}

// checkMost asks that a rule may stand alone with that many cells at most.
func checkMost(t *testing.T, x api.Rule, most int) {
	t.Helper()
	for size := range 6 {
		for _, c := range []string{"\x01", "\x2a", "\x3f"} {
			x.Cells = strings.Repeat(c, size)
			checkAlone(t, x, size >= 1 && size <= most)
		}
	}
}

func TestAloneOfLetters(t *testing.T) {
	for what := 1; what <= 5; what++ {
		for i := range len(smalls) {
			most := 4
			if what == 1 {
				most = 1
			}
			checkMost(t, api.Rule{What: what, Left: smalls[i : i+1], Prio: i}, most)
		}
		for _, left := range []string{"ab", "zz", "cap", "num", "let", "blk", "cont", "ind", "knowledgeab"} {
			checkMost(t, api.Rule{What: what, Left: left, Line: 9}, 4)
		}
	}
}

func TestAloneOfOthers(t *testing.T) {
	for i := range len(marks) {
		checkMost(t, api.Rule{What: 6, Left: marks[i : i+1]}, 4)
	}
	for i := range len(digits) {
		checkMost(t, api.Rule{What: 7, Left: digits[i : i+1]}, 1)
	}
	most := map[string]int{"num": 2, "let": 2, "blk": 1, "cont": 1, "ind": 1}
	for _, name := range names {
		if most[name] == 0 {
			most[name] = 4
		}
		checkMost(t, api.Rule{What: 8, Left: name}, most[name])
	}
}

// wrongRules is rules that may not be.
func wrongRules() []api.Rule {
	var l []api.Rule
	for what := 1; what <= 5; what++ {
		for _, left := range []string{"", "A", "aB", "a1", "a.", " ", "abcdefghijklm", "\xe9"} {
			l = append(l, api.Rule{What: what, Left: left, Cells: "\x01"})
		}
		for _, prio := range []int{math.MinInt, -1, 100, math.MaxInt} {
			l = append(l, api.Rule{What: what, Left: "a", Cells: "\x01", Prio: prio})
		}
	}
	for _, x := range []struct {
		what  int
		lefts []string
	}{{-1, []string{"", "a"}}, {0, []string{"", "a", "cap"}}, {6, []string{"", "a", "..", "1", "+"}}, {7, []string{"", "a", "12", "."}}, {8, []string{"", "Cap", "e", "capss", "a", "."}}, {9, []string{"", "a"}}} {
		for _, left := range x.lefts {
			l = append(l, api.Rule{What: x.what, Left: left, Cells: "\x01"})
		}
	}
	for i, left := range []string{"a", "a", "a", "a", "a", ".", "7", "blk"} {
		what := i + 1
		for _, cells := range []string{"", "\x00", "\x40", "\xff", "\x01\x00", "\x01\x02\x03\x04\x05"} {
			l = append(l, api.Rule{What: what, Left: left, Cells: cells})
		}
		if what >= 6 {
			l = append(l, api.Rule{What: what, Left: left, Cells: "\x01", Prio: 1})
		}
	}
	return l
}

func TestAloneOfWrongRules(t *testing.T) {
	for _, x := range wrongRules() {
		checkAlone(t, x, false)
	}
}

func TestAloneWords(t *testing.T) {
	for _, x := range slices.Concat(samples(), wrongRules(), trial.Full()) {
		checkAlone(t, x, alone(x))
	}
}

// P9.2

func checkMissing(t *testing.T, l []api.Rule, want string) {
	t.Helper()
	if got := check.Missing(l); got != want {
		t.Errorf("Missing of %d rules: %q, want %q", len(l), got, want)
	}
}

func TestMissingOfNothing(t *testing.T) {
	checkMissing(t, nil, "a")
	checkMissing(t, []api.Rule{}, "a")
	checkMissing(t, trial.Lines(trial.More), "a")
}

func TestMissingNone(t *testing.T) {
	for _, l := range [][]api.Rule{trial.Table(), trial.Ordinary(), trial.Full(), slices.Concat(trial.Lines(trial.More), trial.Table()), slices.Repeat(trial.Table(), 20)} {
		checkMissing(t, l, "")
		slices.Reverse(l)
		checkMissing(t, l, "")
	}
}

// lefts is what is wanted, in order.
func lefts() []string {
	return slices.Concat(strings.Split(smalls, ""), strings.Split(marks, ""), strings.Split(digits, ""), names)
}

// without is rules but for those of these places.
func without(l []api.Rule, places ...int) []api.Rule {
	var out []api.Rule
	for i, x := range l {
		if !slices.Contains(places, i) {
			out = append(out, x)
		}
	}
	return out
}

// Each by itself, and each two of them, of which the first one is told, in whatever order the others stand.
func TestMissingFirst(t *testing.T) {
	l := trial.Table()
	for i, one := range lefts() {
		checkMissing(t, without(l, i), one)
		for k := i + 1; k < len(l); k++ {
			less := without(l, i, k)
			checkMissing(t, less, one)
			slices.Reverse(less)
			checkMissing(t, less, one)
		}
	}
}

// The rules come one by one: what is missing goes from one kind to the next.
func TestMissingGrows(t *testing.T) {
	l := trial.Table()
	for i, left := range lefts() {
		checkMissing(t, l[:i], left)
		checkMissing(t, l[i+1:], lefts()[0])
	}
}

// A rule of another What, or with more than the Left that is wanted, is not the one.
func TestMissingInSpiteOfOthers(t *testing.T) {
	l := trial.Table()
	for i, left := range lefts() {
		less := without(l, i)
		for what := range 10 {
			if what != l[i].What {
				less = append(less, api.Rule{What: what, Left: left, Cells: "\x01"})
			}
			for _, other := range []string{left + left, left + "a", "a" + left, strings.ToUpper(left) + " ", ""} {
				less = append(less, api.Rule{What: what, Left: other, Cells: "\x01"})
			}
		}
		if other := strings.ToUpper(left); other != left {
			less = append(less, api.Rule{What: l[i].What, Left: other, Cells: "\x01"})
		}
		checkMissing(t, less, left)
	}
}

// What and Left alone tell that a rule is there.
func TestMissingByWhatAndLeft(t *testing.T) {
	l := trial.Table()
	for i := range l {
		l[i].Cells, l[i].Prio, l[i].Line = "", -i, -1
	}
	checkMissing(t, l, "")
}

func TestMissingWords(t *testing.T) {
	l := slices.Concat(trial.Table(), samples())
	for from := range len(l) {
		for _, to := range []int{from, from + 1, trial.PlainRules - 1, trial.PlainRules, len(l)} {
			if from <= to {
				checkMissing(t, l[from:to], missing(l[from:to]))
			}
		}
	}
}

// P9.3

func checkTable(t *testing.T, l []api.Rule, line int, e api.Errno) {
	t.Helper()
	if number, err := check.Table(l); number != line || err != e {
		t.Errorf("Table of %d rules: %d, %d, want %d, %d", len(l), number, err, line, e)
	}
}

// checkWords asks for what the document's words say of a table; it is the error.
func checkWords(t *testing.T, l []api.Rule) api.Errno {
	t.Helper()
	line, e := accepted(l)
	checkTable(t, l, line, e)
	return e
}

func TestTableOfNothing(t *testing.T) {
	checkTable(t, nil, 0, api.ErrTable)
	checkTable(t, []api.Rule{}, 0, api.ErrTable)
	checkTable(t, trial.Table()[:0], 0, api.ErrTable)
}

func TestTableAccepted(t *testing.T) {
	checkTable(t, trial.Table(), 0, api.OK)
	checkTable(t, trial.Ordinary(), 0, api.OK)
	checkTable(t, trial.Full(), 0, api.OK)
	for i, line := range strings.Split(strings.TrimSpace(trial.More), "\n") {
		if l := trial.Table(line); len(l) != trial.PlainRules+1 {
			t.Errorf("%d: %d rules", i, len(l))
		} else {
			checkTable(t, l, 0, api.OK)
		}
	}
}

// A line behind what is wanted, in each way in which it may be wrong, and next to it one that is not.
func TestTableOfOneLineMore(t *testing.T) {
	for _, x := range []struct {
		line string
		ok   bool
	}{
		{"any a 12346 1", false}, {"begin a 12346 1", true},
		{"digit 1 12346", false}, {"mark . 12346", false}, {"sign cap 12346", false},
		{"any ab 1 1", false}, {"any ab 16 1", true},
		{"begin ab 1-2 1", false}, {"begin ab 16-2 1", true},
		{"inner ab 13456-1 1", false}, {"inner ab 5-2 1", true},
		{"end ab 256-2 1", false}, {"end ab 5 1", false}, {"end ab 5-5 1", true},
		{"begin ab 3456-1 1", false}, {"begin ab 56 1", false}, {"begin ab 56-3456 1", true},
		{"word ab 12 1", true}, {"word ab 256 1", true}, {"word ab 45 1", true},
		{"word ab 6 1", false}, {"word ab 6-1 1", false}, {"word ab 45-6-1 1", false}, {"word ab 45-1-1 1", false}, {"word ab 45-12 1", true},
		{"word ab 4 1", false}, {"word ab 12-4 1", false}, {"word ab 12-456 1", false}, {"word ab 12-1-2356-1 1", false}, {"word ab 12-1-236-1 1", true},
		{"any ab 12346-2356 1", false}, {"end ab 5-5-5-4 1", false}, {"any ab 12346-1-1-1 1", true},
	} {
		l := trial.Table("", "# x", x.line)
		if x.ok {
			checkTable(t, l, 0, api.OK)
		} else {
			checkTable(t, l, trial.PlainRules+3, api.ErrTable)
		}
	}
}

// Of two lines the one behind is told, whichever that is.
func TestTableOfTwoLines(t *testing.T) {
	for _, x := range [][2]string{
		{"word ab 12 1", "word ba 12 1"},
		{"any ab 16 1", "end cd 16-1 1"},
		{"begin ab 16-1-2 1", "any cd 16 1"},
		{"inner ab 16 1", "inner ab 156 1"},
	} {
		for _, order := range [][2]int{{0, 1}, {1, 0}} {
			one, other := x[order[0]], x[order[1]]
			checkTable(t, trial.Table(one), 0, api.OK)
			checkTable(t, trial.Table(one, other), trial.PlainRules+2, api.ErrTable)
			checkTable(t, trial.Lines(one+"\n"+trial.Plain+"#\n"+other), trial.PlainRules+3, api.ErrTable)
			checkTable(t, trial.Lines(one+"\n\n"+other+"\n"+trial.Plain), 3, api.ErrTable)
		}
	}
}

// A rule that a table has twice is told where it stands again.
func TestTableOfRulesAgain(t *testing.T) {
	l := trial.Ordinary()
	for i, x := range l {
		x.Line = 1000
		checkTable(t, append(slices.Clone(l), x), 1000, api.ErrTable)
		checkTable(t, slices.Insert(slices.Clone(l), 0, x), l[i].Line, api.ErrTable)
		checkTable(t, slices.Insert(slices.Clone(l), i+1, x), 1000, api.ErrTable)
	}
}

// A rule that may not be, or not stand alone, in a table: behind its beginning, between two rules, for one of them.
func TestTableOfWrongRules(t *testing.T) {
	l := trial.Ordinary()
	for k, x := range append(wrongRules(), trial.Lines("digit 1 1-2\nany a 1-1 5\nsign num 1-1-1\nsign blk 4-1")...) {
		at := k * 7 % len(l)
		for _, line := range []int{0, -5, 77, math.MaxInt, math.MinInt} {
			x.Line = line
			checkTable(t, append(slices.Clone(l[:at]), x), line, api.ErrTable)
			checkTable(t, slices.Insert(slices.Clone(l), at, x), line, api.ErrTable)
			checkTable(t, slices.Concat(l[:at], []api.Rule{x}, l[at+1:]), line, api.ErrTable)
		}
	}
}

// Of several faults it is the first rule's, be it by itself or with one ahead.
func TestTableFirstFault(t *testing.T) {
	checkTable(t, trial.Table("digit 1 1-2", "word ab 6 1"), trial.PlainRules+1, api.ErrTable)
	checkTable(t, trial.Table("word ab 6 1", "digit 1 1-2"), trial.PlainRules+1, api.ErrTable)
	checkTable(t, trial.Table("word ab 1 1", "word ab 6 1", "", "word cd 6 1", "any a 1 1"), trial.PlainRules+2, api.ErrTable)
	checkTable(t, trial.Lines("any ab 1 1\nany a 1 1\nany a 1-1 1"), 2, api.ErrTable)
	checkTable(t, trial.Lines("word ab 1 1\nany a 1-1 1\nany b 1 1\nany a 1 1"), 2, api.ErrTable)
}

// The line that is told is the rule's own, not its place.
func TestTableLine(t *testing.T) {
	l := trial.Table("word ab 4 1", "word cd 4 1")
	for _, line := range []int{0, 1, -1, 5, math.MinInt, math.MaxInt} {
		l[trial.PlainRules].Line = line
		checkTable(t, l, line, api.ErrTable)
	}
}

func TestTableWithoutOne(t *testing.T) {
	for _, l := range [][]api.Rule{trial.Table(), trial.Ordinary(), trial.Full()} {
		for i := range trial.PlainRules {
			checkTable(t, without(l, i), 0, api.ErrTable)
		}
		checkTable(t, l[:trial.PlainRules-1], 0, api.ErrTable)
		checkTable(t, l[1:], 0, api.ErrTable)
	}
	checkTable(t, trial.Lines(trial.More), 0, api.ErrTable)
}

// What clashes, or may not stand alone, comes ahead of how many there are, and this of what is missing.
func TestTableOrder(t *testing.T) {
	whole, lacking := trial.Fill(trial.Ordinary(), 401), trial.Fill(trial.Lines(trial.More), 401)
	checkTable(t, whole[:400], 0, api.OK)
	checkTable(t, whole, 0, api.ErrBound)
	checkTable(t, trial.Fill(trial.Ordinary(), 550), 0, api.ErrBound)
	checkTable(t, lacking[:400], 0, api.ErrTable)
	checkTable(t, lacking, 0, api.ErrBound)
	checkTable(t, without(whole, 0), 0, api.ErrTable)
	for _, l := range [][]api.Rule{whole, lacking} {
		for _, at := range []int{0, 1, 60, 398, 399, 400, 401} {
			for _, x := range []api.Rule{{Line: 5000}, {What: 5, Left: "a", Cells: "\x08", Line: 5000}} {
				bad := slices.Insert(slices.Clone(l), at, x)
				line, e := accepted(bad)
				checkTable(t, bad, line, e)
				if e != api.ErrTable || x.What == 0 && line != 5000 {
					t.Errorf("at %d: %d, %d", at, line, e)
				}
			}
		}
		last := l[0]
		last.Line = -9
		checkTable(t, append(slices.Clone(l), last), -9, api.ErrTable)
	}
	checkTable(t, slices.Repeat(whole[:1], 500), whole[0].Line, api.ErrTable)
	checkTable(t, make([]api.Rule, 500), 0, api.ErrTable)
}

// One rule of a table spoilt, in one thing.
func TestTableSpoilt(t *testing.T) {
	l := trial.Ordinary()
	seen := map[api.Errno]int{}
	for i, x := range l {
		spoilt := []api.Rule{{}, {What: x.What}, {What: x.What, Left: x.Left}}
		for what := range 10 {
			spoilt = append(spoilt, api.Rule{What: what, Left: x.Left, Cells: x.Cells, Prio: x.Prio})
		}
		for _, left := range []string{"", x.Left + "a", "a" + x.Left, x.Left + x.Left, x.Left[:len(x.Left)-1], strings.ToUpper(x.Left)} {
			spoilt = append(spoilt, api.Rule{What: x.What, Left: left, Cells: x.Cells, Prio: x.Prio})
		}
		for _, cells := range []string{x.Cells + "\x01", x.Cells + "\x08", "\x08" + x.Cells, x.Cells[:len(x.Cells)-1], "\x33", "\x33\x33", "\x33\x33\x33", "\x00", "\x40"} {
			spoilt = append(spoilt, api.Rule{What: x.What, Left: x.Left, Cells: cells, Prio: x.Prio})
		}
		for _, prio := range []int{-1, 0, 1, 99, 100} {
			spoilt = append(spoilt, api.Rule{What: x.What, Left: x.Left, Cells: x.Cells, Prio: prio})
		}
		for _, y := range spoilt {
			y.Line = 100 + i
			seen[checkWords(t, slices.Concat(l[:i], []api.Rule{y}, l[i+1:]))]++
		}
	}
	if seen[api.OK] < 100 || seen[api.ErrTable] < 1000 || len(seen) != 2 {
		t.Errorf("%v", seen)
	}
}

// All short rows of some rules, by themselves and behind what is wanted.
func TestTableWords(t *testing.T) {
	of := trial.Lines("any ab 16 1", "any ab 126 1", "begin ab 16-1 1", "begin cd 126-1 1", "inner cd 16-1 1", "end ef 16 1", "end ef 5 1", "word ab 16 1", "word cd 16 1", "word ef 45-6 1", "word gh 45-4 1", "digit 1 1-2", "sign blk 4", "sign ind 1", "mark . 16")
	base, seen := trial.Table(), map[api.Errno]int{}
	for l := range trial.Rows(of, 3) {
		checkWords(t, l)
		seen[checkWords(t, slices.Concat(base, l))]++
	}
	if seen[api.OK] < 100 || seen[api.ErrTable] < 1000 || len(seen) != 2 {
		t.Errorf("%v", seen)
	}
}

// The same calls have the same answers, whatever was asked between.
func TestEachTime(t *testing.T) {
	l := trial.Full()
	for range 5 {
		checkTable(t, l, 0, api.OK)
		checkTable(t, trial.Fill(l, 401), 0, api.ErrBound)
		checkTable(t, nil, 0, api.ErrTable)
		checkMissing(t, l, "")
		checkMissing(t, l[1:], "a")
		checkAlone(t, l[0], true)
		checkIn(t, l[0], 1, true)
		checkClash(t, l[0], l[1], false)
	}
}
