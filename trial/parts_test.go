package trial_test

import (
	"slices"
	"strings"
	"testing"

	"stylus/api"
	"stylus/trial"
	"stylus/trie"
)

func TestStands(t *testing.T) {
	for _, x := range []struct {
		run      string
		at, most int
		want     string
	}{
		{"ab", 0, 9, "12"}, {"abc", 0, 2, "12"}, {"cab", 1, 2, "134"}, {"cabc", 1, 9, "13"}, {"cabab", 1, 9, "13"}, {"cabab", 3, 9, "134"},
		{"ab", 0, 1, ""}, {"ab", 0, -1, ""}, {"ab", 1, 9, ""}, {"ba", 1, 9, ""}, {"ac", 0, 9, ""}, {"ab", 2, 9, ""},
	} {
		got := ""
		for what := 0; what <= 9; what++ {
			if trial.Stands(api.Rule{What: what, Left: "ab"}, x.run, x.at, x.most) {
				got += string([]byte{byte('0' + what)})
			}
		}
		if got != x.want {
			t.Errorf("%s at %d, most %d: Whats %s, want %s", x.run, x.at, x.most, got, x.want)
		}
	}
	if trial.Stands(api.Rule{What: 1}, "ab", 0, 9) {
		t.Error("a Left of no letter stands")
	}
	if !slices.Equal(trial.Allowed(true, true), []int{1, 2}) {
		t.Error("something ends at a run's first place")
	}
}

func TestFirst(t *testing.T) {
	l := trial.Lines("any a 1 5", "inner ab 2 5", "any ab 3 5", "any abc 4 6", "end b 5 1")
	for _, x := range []struct {
		run            string
		at, most, want int
	}{{"abc", 0, 9, 2}, {"cab", 1, 9, 1}, {"ab", 0, 1, 0}, {"ab", 1, 9, 4}, {"b", 0, 9, -1}, {"abc", 0, 0, -1}} {
		if rule, ok := trial.First(l, x.run, x.at, x.most); ok != (x.want >= 0) || rule != max(x.want, 0) {
			t.Errorf("%s at %d, most %d: %d, %v, want %d", x.run, x.at, x.most, rule, ok, x.want)
		}
	}
}

func TestReady(t *testing.T) {
	l := trial.Parts()
	if got := trial.Ready(l).Rules(); !slices.Equal(got, l) {
		t.Errorf("%v", got)
	}
	defer func() {
		if s, ok := recover().(string); !ok || !strings.HasSuffix(s, ": 62") {
			t.Errorf("%q", s)
		}
	}()
	t.Error(trial.Ready(trial.Table("any a 1-2 3")))
}

func TestNobodys(t *testing.T) {
	nils := 0
	for _, tr := range trial.Nobodys() {
		if len(tr.Rules()) > 0 {
			t.Errorf("%v", tr)
		}
		if tr == (*trie.Trie)(nil) {
			nils++
		}
	}
	if nils != 2 {
		t.Errorf("%d are nil", nils)
	}
}
