package part_test

import (
	"math"
	"slices"
	"testing"

	"stylus/api"
	"stylus/part"
	"stylus/trial"
	"stylus/trie"
)

// The document's words are said anew here, by going through all rules, so that no test leans on the program's own.

// isRun says the document's words on a run.
func isRun(s string) bool {
	for i := range len(s) {
		if s[i] < 'a' || s[i] > 'z' {
			return false
		}
	}
	return len(s) > 0
}

// isPlace says them on a place of it.
func isPlace(run string, at int) bool { return isRun(run) && at >= 0 && at <= len(run)-1 }

// allowed is which rules a place allows, by whether it is the run's first one, and whether they would end where the run ends.
func allowed(first, ends bool) []int {
	switch {
	case first:
		return []int{1, 2}
	case ends:
		return []int{1, 3, 4}
	}
	return []int{1, 3}
}

// eligible says them on a rule and a place.
func eligible(x api.Rule, run string, at, most int) bool {
	return isPlace(run, at) && stands(x, run, at, most)
}

// stands says the rest of it, of what is a place.
func stands(x api.Rule, run string, at, most int) bool {
	size := len(x.Left)
	if size < 1 || size > most || size > len(run)-at {
		return false
	}
	for i := range size {
		if run[at+i] != x.Left[i] {
			return false
		}
	}
	return slices.Contains(allowed(at == 0, size == len(run)-at), x.What)
}

// best says them on a table.
func best(l []api.Rule, run string, at, most int) (rule int, ok bool) {
	if !isPlace(run, at) {
		return 0, false
	}
	return first(l, run, at, most)
}

// first has those that are eligible sorted by all that tells them apart.
func first(l []api.Rule, run string, at, most int) (rule int, ok bool) {
	var all [][]int
	for i, x := range l {
		if stands(x, run, at, most) {
			all = append(all, []int{x.Prio, -len(x.Left), i})
		}
	}
	if len(all) == 0 {
		return 0, false
	}
	slices.SortFunc(all, slices.Compare)
	return all[0][2], true
}

// taken says them on a run, from a place on.
func taken(l []api.Rule, run string, from int) []int {
	if !isPlace(run, from) {
		return nil
	}
	var all []int
	for from < len(run) {
		rule, ok := first(l, run, from, math.MaxInt)
		if !ok {
			return nil
		}
		all = append(all, rule)
		from += len(l[rule].Left)
	}
	return all
}

// example is the table of the chapter's examples.
func example() []api.Rule {
	return trial.Table("any and 12346 1", "any st 34 10", "begin con 46-14 5", "end ness 56-234 3", "inner ea 46-15 20")
}

// rich has rules of each What of letters with all Lefts of up to five letters a and b, of few Prios, so that of those that are eligible at a place several are of the same one.
func rich() []api.Rule {
	l, i := trial.Table(), 0
	for left := range trial.Texts("ab", 5) {
		for what := 1; what <= 5 && left != ""; what++ {
			cells := string([]byte{0x33, byte(0x10 + i%16), byte(0x10 + i/16)})
			prio := i * i / 7 % 5
			i++
			if what > 1 || len(left) > 1 { // any a and any b are wanted, and there
				l = append(l, api.Rule{What: what, Left: left, Cells: cells, Prio: prio, Line: len(l) + 1})
			}
		}
	}
	return l
}

// tables is accepted ones: of what is wanted, of the examples, of some contractions too, rich ones, and of as many rules as may be.
func tables() [][]api.Rule {
	return [][]api.Rule{trial.Table(), example(), trial.Ordinary(), rich(), trial.Full(), trial.Fill(rich(), api.MaxRules)}
}

// far is places of no run, and numbers of no letters.
var far = []int{math.MinInt, math.MinInt + 1, -1 << 32, -256, -12, -2, -1}

// asked is a table that is ready, beside its rules.
type asked struct {
	*testing.T
	*trie.Trie
	rules []api.Rule
}

// ready makes a table ready, which must be accepted.
func ready(t *testing.T, l []api.Rule) asked {
	t.Helper()
	tr, line, e := trie.New(l)
	if tr == nil || line != 0 || e != api.OK {
		t.Fatalf("New of %d rules: %d, %d", len(l), line, e)
	}
	return asked{t, tr, slices.Clone(l)}
}

// best asks for what the words say, and answers it.
func (a asked) best(run string, at, most int) (x api.Rule, ok bool) {
	a.Helper()
	want, wantOK := best(a.rules, run, at, most)
	rule, ok := part.Best(a.Trie, run, at, most)
	if rule != want || ok != wantOK {
		a.Errorf("Best(%q, %d, %d) of %d rules: %d, %v, want %d, %v", trial.Shown(run), at, most, len(a.rules), rule, ok, want, wantOK)
	}
	if !wantOK {
		return api.Rule{}, false
	}
	return a.rules[want], true
}

// all asks for what the words say, and answers its Lefts.
func (a asked) all(run string, from int) []string {
	a.Helper()
	want := taken(a.rules, run, from)
	if got := part.All(a.Trie, run, from); !slices.Equal(got, want) || want == nil && got != nil {
		a.Errorf("All(%q, %d) of %d rules: %v, want %v", trial.Shown(run), from, len(a.rules), got, want)
	}
	var lefts []string
	for _, rule := range want {
		lefts = append(lefts, a.rules[rule].Left)
	}
	return lefts
}

// none asks for nothing, of each function, for these letters.
func (a asked) none(run string, at int) {
	a.Helper()
	for _, most := range append([]int{0, 1, 2, 3, 12, 13, math.MaxInt}, far...) {
		if rule, ok := part.Best(a.Trie, run, at, most); rule != 0 || ok {
			a.Errorf("Best(%q, %d, %d): %d, %v", trial.Shown(run), at, most, rule, ok)
		}
	}
	if got := part.All(a.Trie, run, at); got != nil {
		a.Errorf("All(%q, %d): %v", trial.Shown(run), at, got)
	}
}
