package part_test

import (
	"math"
	"slices"
	"strings"
	"testing"

	"stylus/api"
	"stylus/part"
	"stylus/trial"
)

func TestExamples(t *testing.T) {
	a := ready(t, trial.Parts())
	for run, want := range map[string]string{
		"sand": "s and", "candy": "c and y", "ness": "n e s s", "illness": "i l l ness", "contest": "con t e st", "icon": "i c o n",
	} {
		if got := strings.Join(a.all(run, 0), " "); got != want {
			t.Errorf("All(%s, 0): %s", run, got)
		}
	}
	for _, x := range []struct {
		run      string
		at, most int
		want     api.Rule
	}{
		{"and", 0, 2, api.Rule{What: 1, Left: "a"}}, {"sea", 1, 9, api.Rule{What: 3, Left: "ea"}}, {"ea", 0, 9, api.Rule{What: 1, Left: "e"}},
	} {
		if y, ok := a.best(x.run, x.at, x.most); !ok || y.What != x.want.What || y.Left != x.want.Left {
			t.Errorf("Best(%s, %d, %d): %v, %v", x.run, x.at, x.most, y, ok)
		}
	}
}

// P11.1

// A rule of each What at the run's first place, and at one within, each where its Left ends with the run, and ahead of the run's end.
func TestEligibleOfPlaces(t *testing.T) {
	for what, want := range map[int][4]bool{
		api.RuleAny:   {true, true, true, true},
		api.RuleBegin: {true, true, false, false},
		api.RuleInner: {false, false, true, true},
		api.RuleEnd:   {false, false, false, true},
	} {
		checkPlaces(t, what, want)
	}
	for _, what := range append([]int{0, 5, 6, 7, 8, 9, 10, 255, 257, 1<<32 + 1, math.MaxInt}, far...) {
		checkPlaces(t, what, [4]bool{})
	}
}

// checkPlaces asks whether rules of that What are eligible at such places, with Lefts of a letter, and of more.
func checkPlaces(t *testing.T, what int, want [4]bool) {
	t.Helper()
	for _, left := range []string{"a", "ab", "aa", "knowledgeful"} {
		x := api.Rule{What: what, Left: left, Cells: "\x01"}
		for i, run := range []string{left + "c", left, "c" + left + "c", "c" + left} {
			at := i / 2
			for _, most := range []int{len(left), len(left) + 1, math.MaxInt} {
				if part.Eligible(x, run, at, most) != want[i] {
					t.Errorf("What %d, Left %s, run %s at %d, most %d: %v", what, left, run, at, most, !want[i])
				}
			}
		}
	}
}

// Most letters: none, one less than the Left has, as many, and more.
func TestEligibleOfMost(t *testing.T) {
	for _, left := range []string{"a", "and", "knowledgeful"} {
		size := len(left)
		for _, most := range append([]int{0, 1, size - 1, size, size + 1, 100, math.MaxInt - 1, math.MaxInt}, far...) {
			for at, run := range []string{left + "a", "a" + left + "a"} {
				x := api.Rule{What: api.RuleAny, Left: left, Cells: "\x01"}
				if got := part.Eligible(x, run, at, most); got != (most >= size) {
					t.Errorf("Left %s, run %s at %d, most %d: %v", left, run, at, most, got)
				}
			}
		}
	}
}

// A Left that has no letter, that stands there but for a letter, that goes on behind the run, or that stands elsewhere alone.
func TestEligibleOfLefts(t *testing.T) {
	for _, x := range []struct {
		left, run string
		at        int
		want      bool
	}{
		{"", "a", 0, false}, {"", "ab", 1, false}, {"and", "and", 0, true}, {"and", "ant", 0, false}, {"and", "end", 0, false}, {"and", "add", 0, false},
		{"and", "an", 0, false}, {"and", "sand", 1, true}, {"and", "sant", 1, false}, {"and", "san", 1, false}, {"and", "sand", 0, false}, {"and", "sand", 2, false},
		{"and", "sandand", 1, true}, {"and", "sandand", 4, true}, {"and", "sandand", 3, false}, {"aa", "aaa", 1, true}, {"aa", "aaa", 2, false}, {"and", "a", 0, false},
		{"And", "and", 0, false}, {"AND", "and", 0, false}, {"an ", "and", 0, false}, {"and\x00", "and", 0, false}, {" and", "and", 0, false}, {"1", "and", 0, false},
	} {
		if got := part.Eligible(api.Rule{What: api.RuleAny, Left: x.left}, x.run, x.at, 9); got != x.want {
			t.Errorf("Left %q, run %s at %d: %v", x.left, x.run, x.at, got)
		}
	}
}

// Nothing but What and Left counts, not even whether there may be such a rule.
func TestEligibleOfOthers(t *testing.T) {
	long := strings.Repeat("ab", 50)
	for _, left := range []string{"a", "ab", long[:12], long[:13], long} {
		for at, run := range []string{left, "a" + left} {
			for what := 1; what <= 4; what++ {
				for _, number := range append([]int{0, 1, 99, 100, math.MaxInt}, far...) {
					for _, cells := range []string{"", "\x00", "\x01", "\xff", "\x01\x01\x01\x01\x01"} {
						x := api.Rule{What: what, Left: left, Cells: cells, Prio: number, Line: number}
						want := slices.Contains(trial.Allowed(at == 0, true), what)
						if part.Eligible(x, run, at, 100) != want {
							t.Errorf("%v at %d: %v", x, at, !want)
						}
					}
				}
			}
		}
	}
}

// Each What, all short Lefts and runs, at each place, with each most.
func TestEligibleWords(t *testing.T) {
	seen := map[bool]int{}
	for run := range trial.Texts("abA", 4) {
		for left := range trial.Texts("ab", 4) {
			for what := -1; what <= 9; what++ {
				x := api.Rule{What: what, Left: left, Cells: "\x01", Prio: 50}
				for at := -2; at <= len(run)+1; at++ {
					for most := -1; most <= len(left)+1; most++ {
						want := eligible(x, run, at, most)
						seen[want]++
						if got := part.Eligible(x, run, at, most); got != want {
							t.Errorf("What %d, Left %q, run %q at %d, most %d: %v", what, left, run, at, most, got)
						}
					}
				}
			}
		}
	}
	if seen[true] < 500 || seen[false] < 500000 {
		t.Errorf("%v", seen)
	}
}

// P11.2

// wanted is a run, a place, most letters, and the What and Left of the best rule there, or none.
type wanted struct {
	run      string
	at, most int
	what     int
	left     string
}

func (a asked) checkBest(l ...wanted) {
	a.Helper()
	for _, x := range l {
		if y, ok := a.best(x.run, x.at, x.most); ok != (x.what > 0) || y.What != x.what || y.Left != x.left {
			a.Errorf("Best(%s, %d, %d): %v, %v, want %d, %s", x.run, x.at, x.most, y, ok, x.what, x.left)
		}
	}
}

// Of one Prio the longest Left, however long; else the least Prio, however short the Left.
func TestBestOfPrios(t *testing.T) {
	for _, x := range []struct{ short, long, want string }{
		{"any ab 16 5", "any abc 156 5", "abc"}, {"any ab 16 0", "any abc 156 0", "abc"}, {"any ab 16 99", "any abc 156 99", "a"}, {"any ab 16 50", "any abc 156 50", "abc"},
		{"any ab 16 4", "any abc 156 5", "ab"}, {"any ab 16 5", "any abc 156 4", "abc"}, {"any ab 16 0", "any abc 156 99", "ab"}, {"any ab 16 99", "any abc 156 0", "abc"},
		{"any ab 16 9", "any abc 156 10", "ab"}, {"any ab 16 10", "any abc 156 9", "abc"}, {"any ab 16 51", "any abc 156 51", "a"}, {"any ab 16 51", "any abc 156 50", "abc"},
	} {
		for _, lines := range [][]string{{x.short, x.long}, {x.long, x.short}} {
			for _, l := range [][]api.Rule{trial.Table(lines...), append(trial.Lines(lines...), trial.Table()...)} {
				a := ready(t, l)
				a.checkBest(wanted{"abcd", 0, 9, 1, x.want}, wanted{"abc", 0, 3, 1, x.want}, wanted{"dabc", 1, 9, 1, x.want}, wanted{"a", 0, 9, 1, "a"})
			}
		}
	}
}

// Of one Prio and one Left, the least number, whatever the rules are about.
func TestBestOfNumbers(t *testing.T) {
	for _, x := range []struct {
		lines []string
		run   string
		at    int
	}{
		{[]string{"any ab 16 5", "begin ab 156 5"}, "abc", 0}, {[]string{"any ab 16 5", "inner ab 156 5"}, "cabc", 1},
		{[]string{"any ab 16 5", "inner ab 156 5", "end ab 46-14 5"}, "cab", 1},
		{[]string{"inner ab 156 5", "end ab 46-14 5", "any ab 16 5"}, "cab", 1}, {[]string{"end ab 46-14 5", "inner ab 156 5"}, "cab", 1},
	} {
		for range x.lines {
			x.lines = append(x.lines[1:], x.lines[0])
			for at, l := range map[int][]api.Rule{0: append(trial.Lines(x.lines...), trial.Table()...), trial.PlainRules: trial.Table(x.lines...)} {
				if rule, ok := part.Best(ready(t, l).Trie, x.run, x.at, 9); !ok || rule != at {
					t.Errorf("%s in %s: %d, %v, want %d", x.lines, x.run, rule, ok, at)
				}
			}
		}
	}
}

// Each most, from below 0 on; a Left that would reach beyond it is not taken.
func TestBestOfMost(t *testing.T) {
	a := ready(t, trial.Table("any and 12346 1", "begin an 46-2 1", "any nd 46-5 1", "end d 56-1 0", "inner n 56-2 60"))
	a.checkBest(
		wanted{"and", 0, 3, 1, "and"}, wanted{"and", 0, 4, 1, "and"}, wanted{"and", 0, math.MaxInt, 1, "and"}, wanted{"and", 0, 2, 2, "an"}, wanted{"and", 0, 1, 1, "a"},
		wanted{"sand", 1, 3, 1, "and"}, wanted{"sand", 1, 2, 1, "a"}, wanted{"sand", 1, 1, 1, "a"}, wanted{"and", 1, 2, 1, "nd"}, wanted{"and", 1, 1, 1, "n"},
		wanted{"and", 2, 1, 4, "d"}, wanted{"and", 2, 9, 4, "d"}, wanted{"d", 0, 9, 1, "d"}, wanted{"andy", 2, 9, 1, "d"},
	)
	for _, most := range append([]int{0}, far...) {
		for at := range 3 {
			a.checkBest(wanted{"and", at, most, 0, ""})
		}
	}
}

// Words, marks, digits and signs are no rules of runs, however early they would be taken.
func TestBestOfLettersAlone(t *testing.T) {
	a := ready(t, trial.Table("word but 12 0", "word b 12-12 0", "word can 14 0", "any ca 16 99"))
	for _, run := range []string{"but", "b", "can", "cap", "caps", "num", "let", "blk", "cont", "ind", "e", "s", "n"} {
		if got := a.all(run, 0); !slices.Equal(got, strings.Split(run, "")) {
			t.Errorf("All(%s, 0): %s", run, got)
		}
		a.checkBest(wanted{run, 0, 9, 1, run[:1]}, wanted{run, 0, 1, 1, run[:1]})
	}
}

// A run of one letter begins and ends there, but nothing of what ends a run is at its beginning.
func TestOneLetter(t *testing.T) {
	for _, l := range tables() {
		a := ready(t, l)
		for c := 'a'; c <= 'z'; c++ {
			x, ok := a.best(string(c), 0, 1)
			if got := a.all(string(c), 0); !ok || x.Left != string(c) || len(got) != 1 || got[0] != string(c) {
				t.Errorf("%c: %v, %v, %s", c, x, ok, got)
			}
		}
	}
	ready(t, trial.Table("begin a 56-1 5", "inner a 56-2 1", "end a 56-3 1")).checkBest(wanted{"a", 0, 9, 2, "a"})
	ready(t, trial.Table("inner a 56-2 1", "end a 56-3 1")).checkBest(wanted{"a", 0, 9, 1, "a"})
}

// At a run's last place stands one letter, which most may well be beyond.
func TestLastPlace(t *testing.T) {
	a := ready(t, trial.Table("begin a 56-1 1", "inner a 56-2 3", "end a 56-3 2", "any ab 16 0", "inner b 56-12 5"))
	a.checkBest(
		wanted{"aa", 1, 9, 4, "a"}, wanted{"aa", 1, 1, 4, "a"}, wanted{"ba", 1, 9, 4, "a"}, wanted{"aaa", 1, 1, 3, "a"}, wanted{"aab", 1, 1, 3, "a"},
		wanted{"ab", 1, 9, 3, "b"}, wanted{"ab", 1, 0, 0, ""}, wanted{"ab", 2, 9, 0, ""}, wanted{"aba", 2, math.MaxInt, 4, "a"},
	)
	for run, want := range map[string]string{"aa": "a", "ab": "b", "cab": "b", "c": "c", "zz": "z"} {
		if got := a.all(run, len(run)-1); len(got) != 1 || got[0] != want {
			t.Errorf("All(%s, %d): %s", run, len(run)-1, got)
		}
	}
}

// P11.3

func TestAll(t *testing.T) {
	a := ready(t, trial.Table("any and 12346 1", "any st 34 10", "any the 2346 1", "any th 1456 10", "begin con 46-14 5", "inner ea 46-15 20", "any ar 345 10", "any ed 1246 10", "any red 346 10", "end red 56-1235 9", "word but 12 0"))
	for _, x := range []struct {
		run  string
		from int
		want string
	}{
		{"then", 0, "the n"}, {"thin", 0, "th i n"}, {"bathe", 0, "b a the"}, {"ared", 0, "ar ed"}, {"ared", 1, "red"}, {"bred", 0, "b red"}, {"reda", 0, "red a"}, {"red", 0, "red"},
		{"thand", 0, "th and"}, {"tea", 0, "t ea"}, {"ea", 0, "e a"}, {"tea", 2, "a"}, {"con", 0, "con"}, {"con", 1, "o n"}, {"concon", 0, "con c o n"}, {"concon", 3, "c o n"},
		{"ststst", 0, "st st st"}, {"ststst", 1, "t st st"}, {"andandand", 3, "and and"}, {"but", 0, "b u t"}, {"xyz", 0, "x y z"}, {"xyz", 2, "z"},
	} {
		if got := strings.Join(a.all(x.run, x.from), " "); got != x.want {
			t.Errorf("All(%s, %d): %s", x.run, x.from, got)
		}
	}
}

// The rule at a place hangs on the place in the run, not on where the call began; a rest is taken as it is behind what is ahead of it.
func TestAllOfRests(t *testing.T) {
	a := ready(t, trial.Ordinary())
	for _, run := range []string{"conthenness", "anabeaness", "withstand", "fortification", "connation", "athena"} {
		whole := part.All(a.Trie, run, 0)
		at := 0
		for i, rule := range whole {
			if got := part.All(a.Trie, run, at); !slices.Equal(got, whole[i:]) {
				t.Errorf("All(%s, %d): %v, want %v", run, at, got, whole[i:])
			}
			at += len(a.rules[rule].Left)
		}
	}
}

// Numbers are those of the rules in their order.
func TestNumbers(t *testing.T) {
	for _, l := range tables() {
		for _, other := range trial.Orders(l) {
			a := ready(t, other)
			for _, run := range []string{"a", "bab", "ababb", "bbaabab", "conandeaness", "withation"} {
				for at := range len(run) {
					a.all(run, at)
					for most := range 6 {
						a.best(run, at, most)
					}
				}
			}
		}
	}
}

// A long run is taken to its end.
func TestLongRuns(t *testing.T) {
	for _, l := range tables() {
		a := ready(t, l)
		for _, piece := range []string{"a", "sand", "conthenness", "abbab"} {
			run := strings.Repeat(piece, 20000/len(piece))
			if got := a.all(run, 0); strings.Join(got, "") != run {
				t.Errorf("%s: %d parts", piece, len(got))
			}
			a.all(run, len(run)-1)
			a.none(run, len(run))
			a.none(run+"A", 0)
		}
	}
}

// Wrong inputs

// A text that is no run: of no byte, or with one that is no small letter, wherever that stands.
func TestNoRun(t *testing.T) {
	a := ready(t, trial.Ordinary())
	texts := []string{"", " ", "A", "1", ".", "\n", "\x00", "\xff", "a b", "and\n", "\u00e9", "a\u00e9", "and and", "And", "AND", "anD", "a1", "a.", "(a)", "a-a", "{", "`a", "a{"}
	for c := range 256 {
		for at := range 4 {
			if s := "aaa"[:at] + string([]byte{byte(c)}) + "aaa"[at:]; c < 'a' || c > 'z' {
				texts = append(texts, s)
			}
		}
	}
	for _, s := range texts {
		for at := -1; at <= len(s); at++ {
			a.none(s, at)
			for _, left := range []string{"", "a", s[max(0, at):], s} {
				if part.Eligible(api.Rule{What: api.RuleAny, Left: left, Cells: "\x01"}, s, at, 9) {
					t.Errorf("%q is eligible in %q at %d", left, s, at)
				}
			}
		}
	}
}

// A place below 0, behind the last letter, far behind it.
func TestNoPlace(t *testing.T) {
	for _, l := range tables() {
		a := ready(t, l)
		for _, run := range []string{"a", "and", "conandness", strings.Repeat("a", 1000)} {
			for _, at := range append([]int{len(run), len(run) + 1, len(run) + 12, 1 << 32, math.MaxInt - 1, math.MaxInt}, far...) {
				a.none(run, at)
				for what := 1; what <= 4; what++ {
					if part.Eligible(api.Rule{What: what, Left: "a", Cells: "\x01"}, run, at, 9) {
						t.Errorf("Eligible in %s at %d, What %d", trial.Shown(run), at, what)
					}
				}
			}
		}
	}
}

func TestNobodys(t *testing.T) {
	for _, tr := range trial.Nobodys() {
		a := asked{t, tr, nil}
		for _, run := range []string{"", "a", "and", "A", "a1", "\xff", strings.Repeat("sand", 1000)} {
			for _, at := range append([]int{0, 1, 2, 3, math.MaxInt}, far...) {
				a.none(run, at)
			}
		}
	}
}
