package part_test

import (
	"slices"
	"strings"
	"testing"

	"stylus/part"
	"stylus/trial"
)

// runs is such as have what the tables' rules have: all short ones of a and b, all threes of pieces, and each Left with others beside it.
func runs(a asked) []string {
	pieces := []string{"a", "n", "x", "ea", "th", "con", "ness", "and"}
	all := slices.Collect(trial.Texts("ab", 6))
	for l := range trial.Rows(pieces, 3) {
		all = append(all, strings.Join(l, ""))
	}
	for _, x := range a.rules {
		if x.What <= 5 {
			all = append(all, x.Left, "x"+x.Left, "x"+x.Left+"x", x.Left+x.Left)
		}
	}
	slices.Sort(all)
	return slices.Compact(all)[1:] // without that of no letters
}

// P11.2, P11.3: what the words say, at each place of many runs, and beside these places, with each most.
func TestWords(t *testing.T) {
	for _, l := range tables() {
		a := ready(t, l)
		for _, run := range runs(a) {
			for at := -1; at <= len(run); at++ {
				a.all(run, at)
				for most := range min(len(run), 6) + 2 {
					a.best(run, at, most)
				}
			}
		}
	}
}

// P11.4

// What All answers is the caller's: what he makes of it is not seen by the next call, nor in another answer.
func TestAnswersNewMemory(t *testing.T) {
	for _, l := range tables() {
		a := ready(t, l)
		for _, run := range []string{"a", "abba", "sand", "conandness", "withthenation"} {
			for from := range len(run) {
				want := taken(l, run, from)
				one, other := part.All(a.Trie, run, from), part.All(a.Trie, run, from)
				for i := range one {
					one[i] = -7
				}
				one = append(one[:0], -8)
				clear(one[:cap(one)])
				if !slices.Equal(other, want) {
					t.Errorf("All(%s, %d): %v, want %v", run, from, other, want)
				}
				a.all(run, from)
			}
		}
	}
}

// The table stays as it is, and so does the rule that is handed in.
func TestHandedInStays(t *testing.T) {
	for _, l := range tables() {
		a := ready(t, l)
		for _, run := range []string{"abab", "conandness", "A", ""} {
			for at := -1; at <= len(run); at++ {
				part.All(a.Trie, run, at)
				part.Best(a.Trie, run, at, 3)
				for i := range l {
					part.Eligible(l[i], run, at, 3)
				}
			}
		}
		if !slices.Equal(l, a.rules) || !slices.Equal(a.Rules(), a.rules) {
			t.Error("the rules are others")
		}
	}
}

// The same calls have the same answers, whatever was asked between, and of whichever table.
func TestEachTime(t *testing.T) {
	for range 3 {
		for _, l := range tables() {
			a := ready(t, l)
			for range 3 {
				for _, run := range []string{"abbab", "conandness", "stand"} {
					a.all(run, 0)
					a.none(run, -1)
					a.best(run, 1, 2)
				}
			}
		}
	}
}

// P11.5

// The Lefts of All are the run from each place on, and each rule is the best one at its place.
func TestTaken(t *testing.T) {
	for _, l := range tables() {
		a := ready(t, l)
		for _, run := range runs(a) {
			for from := range len(run) {
				a.checkTaken(run, from)
			}
		}
	}
}

func (a asked) checkTaken(run string, from int) {
	a.Helper()
	at := from
	for _, rule := range part.All(a.Trie, run, from) {
		left := a.rules[rule].Left
		if best, ok := part.Best(a.Trie, run, at, len(run)-at); !ok || best != rule || !strings.HasPrefix(run[at:], left) {
			a.Fatalf("All(%s, %d): %d of %s at %d, and the best one is %d, %v", run, from, rule, left, at, best, ok)
		}
		at += len(left)
	}
	if at != len(run) {
		a.Errorf("All(%s, %d) ends at %d", run, from, at)
	}
}

// P11.6

// The best rule is eligible, and no eligible one of the table has a lesser Prio, nor, with the same, a longer Left.
func TestLeast(t *testing.T) {
	for _, l := range tables() {
		a := ready(t, l)
		for _, run := range runs(a) {
			for at := range len(run) {
				for _, most := range []int{1, 2, len(run)} {
					a.checkLeast(run, at, most)
				}
			}
		}
	}
}

func (a asked) checkLeast(run string, at, most int) {
	a.Helper()
	rule, ok := part.Best(a.Trie, run, at, most)
	if !ok || rule < 0 || rule >= len(a.rules) {
		a.Fatalf("Best(%s, %d, %d): %d, %v", run, at, most, rule, ok)
	}
	x := a.rules[rule]
	if !part.Eligible(x, run, at, most) || !eligible(x, run, at, most) {
		a.Errorf("Best(%s, %d, %d): %v is not eligible", run, at, most, x)
	}
	for i, y := range a.rules {
		is := part.Eligible(y, run, at, most)
		if is != eligible(y, run, at, most) {
			a.Errorf("Eligible(%v, %s, %d, %d): %v", y, run, at, most, is)
		}
		if is && (y.Prio < x.Prio || y.Prio == x.Prio && (len(y.Left) > len(x.Left) || len(y.Left) == len(x.Left) && i < rule)) {
			a.Errorf("Best(%s, %d, %d): %v, but %v is better", run, at, most, x, y)
		}
	}
}

// The tables let places have several rules of one Prio, and some of one Prio and Left, or there would be nothing to tell apart.
func TestTablesTellApart(t *testing.T) {
	a := ready(t, trial.Crowded())
	sames, longer, alike := 0, 0, 0
	for run := range trial.Texts("ab", 7) {
		for at := range len(run) {
			rule, _ := best(a.rules, run, at, len(run))
			for i, y := range a.rules {
				x := a.rules[rule]
				switch {
				case i == rule || y.Prio != x.Prio || !eligible(y, run, at, len(run)):
				case len(y.Left) == len(x.Left):
					alike++
				default:
					sames++
				}
				if y.Prio > x.Prio && len(y.Left) > len(x.Left) && eligible(y, run, at, len(run)) {
					longer++
				}
			}
		}
	}
	if sames < 100 || longer < 100 || alike < 100 {
		t.Errorf("%d of one Prio, %d of one Prio and Left, %d longer ones of a greater Prio", sames, alike, longer)
	}
}
