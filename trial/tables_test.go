package trial_test

import (
	"slices"
	"strings"
	"testing"

	"stylus/api"
	"stylus/check"
	"stylus/rules"
	"stylus/trial"
)

func TestLines(t *testing.T) {
	want := []api.Rule{{What: 1, Left: "st", Cells: "\x0c", Prio: 10, Line: 1}, {What: 8, Left: "cap", Cells: "\x20", Line: 3}}
	if l := trial.Lines("any st 34 10\n# x", "sign cap 6"); !slices.Equal(l, want) || len(trial.Lines()) > 0 {
		t.Errorf("%v", l)
	}
	defer func() {
		if s, ok := recover().(string); !ok || !strings.HasSuffix(s, ": 2") {
			t.Errorf("%q", s)
		}
	}()
	t.Error(trial.Lines("any st 34 10", "any st 34"))
}

// Each table is accepted, and begins with what is wanted.
func TestTables(t *testing.T) {
	plain := trial.Table()
	for _, x := range []struct {
		l    []api.Rule
		most int
	}{
		{plain, trial.PlainRules},
		{trial.Table("any and 12346 1", "", "word but 12 0"), trial.PlainRules + 2},
		{trial.Parts(), trial.PlainRules + 5},
		{trial.Chunks(), trial.PlainRules + 7},
		{trial.Fores(), trial.PlainRules + 8},
		{trial.Alike(), trial.PlainRules + 22},
		{trial.Ordinary(), trial.PlainRules + 22},
		{trial.Crowded(), trial.PlainRules + 308},
		{trial.Packed(), api.MaxRules},
		{trial.Full(), api.MaxRules},
	} {
		if line, e := check.Table(x.l); e != api.OK || len(x.l) != x.most || !slices.Equal(x.l[:trial.PlainRules], plain) {
			t.Errorf("%d rules, not %d; %d, %d", len(x.l), x.most, line, e)
		}
	}
	for i := range plain {
		if check.Missing(slices.Delete(slices.Clone(plain), i, i+1)) == "" {
			t.Errorf("%v is not wanted", plain[i])
		}
	}
}

func TestCellsOf(t *testing.T) {
	l := trial.Ordinary()
	for lefts, want := range map[string]string{
		"": "", "a": "\x01", "_ b  _": "\x00\x03\x00", "con e+ 1": "\x28\x09\x28\x01\x01", ":": "\x12", ". ( a": "\x32\x10\x23\x01",
		"any:a begin:a inner:a word:a": "\x01\x30\x03\x28\x02\x21", "end:ness mark:: digit:1 sign:cap": "\x30\x0f\x12\x01\x20",
	} {
		if got := trial.CellsOf(l, lefts); got != want {
			t.Errorf("%s: %q, want %q", lefts, got, want)
		}
	}
	for _, name := range []string{"ba", "end:and", "mark:a", "many:a", "a:b"} {
		func() {
			defer func() {
				if s, ok := recover().(string); !ok || !strings.HasSuffix(s, " "+name) {
					t.Errorf("%q", s)
				}
			}()
			t.Error(trial.CellsOf(l, name))
		}()
	}
}

func TestFill(t *testing.T) {
	l := trial.Ordinary()
	if got := trial.Fill(l, 5); !slices.Equal(got, l) {
		t.Errorf("%d rules", len(got))
	}
	for _, most := range []int{len(l) + 1, 400, 401} {
		got := trial.Fill(l, most)
		for _, x := range got {
			if !rules.May(x) {
				t.Errorf("%v", x)
			}
		}
		if len(got) != most || !slices.Equal(got[:len(l)], l) {
			t.Errorf("%d rules, not %d", len(got), most)
		}
	}
}

func TestOfRow(t *testing.T) {
	var l []api.Rule
	for what := -1; what <= 9; what++ {
		l = append(l, api.Rule{What: what, Cells: string([]byte{byte(2 + what)})})
	}
	for row, want := range map[int]string{-1: "", 0: "", 1: "\x03\x04\x08\x0a", 2: "\x03\x05\x06\x08\x0a", 3: "\x08\x09\x0a", 4: ""} {
		if got := trial.Behind(trial.OfRow(l, row)); got != want {
			t.Errorf("row %d: %q", row, got)
		}
	}
}

// Each order has all rules, and most orders are unlike each other.
func TestOrders(t *testing.T) {
	l := trial.Ordinary()
	seen := map[string]bool{}
	for _, other := range trial.Orders(l) {
		sorted := slices.SortedFunc(slices.Values(other), func(x, y api.Rule) int { return x.Line - y.Line })
		if !slices.Equal(sorted, l) {
			t.Errorf("%v", other)
		}
		seen[trial.Behind(other)] = true
	}
	if len(seen) < 40 {
		t.Errorf("%d orders", len(seen))
	}
}

// No table is another one in the list of them, and all are accepted.
func TestListOfTables(t *testing.T) {
	seen := map[string]bool{}
	for _, l := range trial.Tables() {
		if line, e := check.Table(l); e != api.OK {
			t.Errorf("%d rules: %d, %d", len(l), line, e)
		}
		seen[trial.Behind(l)] = true
	}
	if len(seen) != len(trial.Tables()) || len(seen) < 6 {
		t.Errorf("%d tables", len(seen))
	}
}
