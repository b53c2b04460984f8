package part_test

import (
	"math"
	"slices"
	"testing"

	"stylus/api"
	"stylus/part"
	"stylus/trial"
	"stylus/trie"
)

// The document's words are said anew here, by going through all rules, so that no test leans on the program's own.

// isRun says the document's words on a run.
func isRun(s string) bool {
	for i := range len(s) {
		if s[i] < 'a' || s[i] > 'z' {
			return false
		}
	}
	return len(s) > 0
}

// isPlace says them on a place of it.
func isPlace(run string, at int) bool { return isRun(run) && at >= 0 && at <= len(run)-1 }

// eligible says them on a rule and a place.
func eligible(x api.Rule, run string, at, most int) bool {
	return isPlace(run, at) && trial.Stands(x, run, at, most)
}

// best says them on a table.
func best(l []api.Rule, run string, at, most int) (rule int, ok bool) {
	if !isPlace(run, at) {
		return 0, false
	}
	return trial.First(l, run, at, most)
}

// taken says them on a run, from a place on.
func taken(l []api.Rule, run string, from int) []int {
	if !isPlace(run, from) {
		return nil
	}
	var all []int
	for from < len(run) {
		rule, ok := trial.First(l, run, from, math.MaxInt)
		if !ok {
			return nil
		}
		all = append(all, rule)
		from += len(l[rule].Left)
	}
	return all
}

// tables is accepted ones: of what is wanted, of the examples, of some contractions too, rich ones, and of as many rules as may be.
func tables() [][]api.Rule {
	return [][]api.Rule{trial.Table(), trial.Parts(), trial.Ordinary(), trial.Crowded(), trial.Full(), trial.Fill(trial.Crowded(), api.MaxRules)}
}

// far is places of no run, and numbers of no letters.
var far = []int{math.MinInt, math.MinInt + 1, -1 << 32, -256, -12, -2, -1}

// asked is a table that is ready, beside its rules.
type asked struct {
	*testing.T
	*trie.Trie
	rules []api.Rule
}

// ready makes a table ready.
func ready(t *testing.T, l []api.Rule) asked {
	return asked{t, trial.Ready(l), slices.Clone(l)}
}

// best asks for what the words say, and answers it.
func (a asked) best(run string, at, most int) (x api.Rule, ok bool) {
	a.Helper()
	want, wantOK := best(a.rules, run, at, most)
	rule, ok := part.Best(a.Trie, run, at, most)
	if rule != want || ok != wantOK {
		a.Errorf("Best(%q, %d, %d) of %d rules: %d, %v, want %d, %v", trial.Shown(run), at, most, len(a.rules), rule, ok, want, wantOK)
	}
	if !wantOK {
		return api.Rule{}, false
	}
	return a.rules[want], true
}

// all asks for what the words say, and answers its Lefts.
func (a asked) all(run string, from int) []string {
	a.Helper()
	want := taken(a.rules, run, from)
	if got := part.All(a.Trie, run, from); !slices.Equal(got, want) || want == nil && got != nil {
		a.Errorf("All(%q, %d) of %d rules: %v, want %v", trial.Shown(run), from, len(a.rules), got, want)
	}
	var lefts []string
	for _, rule := range want {
		lefts = append(lefts, a.rules[rule].Left)
	}
	return lefts
}

// none asks for nothing, of each function, for these letters.
func (a asked) none(run string, at int) {
	a.Helper()
	for _, most := range append([]int{0, 1, 2, 3, 12, 13, math.MaxInt}, far...) {
		if rule, ok := part.Best(a.Trie, run, at, most); rule != 0 || ok {
			a.Errorf("Best(%q, %d, %d): %d, %v", trial.Shown(run), at, most, rule, ok)
		}
	}
	if got := part.All(a.Trie, run, at); got != nil {
		a.Errorf("All(%q, %d): %v", trial.Shown(run), at, got)
	}
}
