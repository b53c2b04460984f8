package trial_test

import (
	"strings"
	"testing"

	"stylus/api"
	"stylus/flat"
	"stylus/trial"
)

// Each row is a normalised tree's, is there once, and among them are those of each form.
func TestFlats(t *testing.T) {
	seen := map[string]bool{}
	deepest := 0
	for l := range trial.Flats() {
		if _, e := flat.Tree(l); e != api.OK {
			t.Fatalf("%s: %d", trial.Told(l), e)
		}
		s := trial.Told(l)
		if seen[s] {
			t.Errorf("%s comes twice", s)
		}
		seen[s] = true
		depth, most := 0, 0
		for _, x := range strings.SplitAfter(s, "<l") {
			depth += strings.Count(x, "<l") - strings.Count(x, ">l")
			most = max(most, depth)
		}
		deepest = max(deepest, most)
	}
	for _, s := range []string{"", "<k>k", "<p>p<p>p<k>k", "<pbut AND>p", "<l<ia<l<i<l<ib>i>l>i<i>i>l>i>l", "<l<i<l<ib>i>l<l<i>i>l>i>l", "<l<i>i>l<l<i>i>l", "<t<r<c>c>r<r<ca>c>r>t<t<r<c>c>r>t"} {
		if !seen[s] {
			t.Errorf("%s does not come", s)
		}
	}
	if len(seen) < 7000 || deepest < 6 {
		t.Errorf("%d rows, lists %d deep", len(seen), deepest)
	}
}

func TestFlatsLeft(t *testing.T) {
	for most := range 5 {
		n := 0
		for range trial.Flats() {
			if n == most {
				break
			}
			n++
		}
		if n != most {
			t.Errorf("%d of %d", n, most)
		}
	}
}

func TestFlatOf(t *testing.T) {
	if s := trial.Told(trial.FlatOf("{p  a {e b }}")); s != "<pa <eb>e>p" || trial.FlatOf("") != nil {
		t.Errorf("%s", s)
	}
	defer func() {
		if s, ok := recover().(string); !ok || !strings.HasSuffix(s, ": {p") {
			t.Errorf("%q", s)
		}
	}()
	t.Error(trial.FlatOf("{p"))
}
