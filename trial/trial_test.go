package trial_test

import (
	"slices"
	"strings"
	"testing"

	"stylus/trial"
)

func TestTexts(t *testing.T) {
	for _, x := range []struct {
		alphabet string
		most     int
		want     []string
	}{
		{"ab", 2, []string{"", "a", "b", "aa", "ab", "ba", "bb"}},
		{"\xff\x00", 1, []string{"", "\xff", "\x00"}},
		{"ab", 0, []string{""}},
		{"", 3, []string{""}},
	} {
		if got := slices.Collect(trial.Texts(x.alphabet, x.most)); !slices.Equal(got, x.want) {
			t.Errorf("Texts(%q, %d): %q", x.alphabet, x.most, got)
		}
	}
}

func TestTextsLeft(t *testing.T) {
	n := 0
	for range trial.Texts("abc", 9) {
		n++
		if n == 5 {
			break
		}
	}
	if n != 5 {
		t.Errorf("%d texts", n)
	}
}

func TestShown(t *testing.T) {
	if a, b := trial.Shown("ab"), trial.Shown(strings.Repeat("ab", 21)); a != "ab" || b != strings.Repeat("ab", 20) {
		t.Errorf("%q, %q", a, b)
	}
}
