package check_test

import (
	"slices"
	"testing"

	"stylus/api"
	"stylus/check"
	"stylus/trial"
)

// P9.4

// Neither rules that are handed in nor the room behind their end are changed.
func TestHandedInStays(t *testing.T) {
	all := slices.Concat(trial.Ordinary(), wrongRules())
	for n := range all {
		l := slices.Clone(all)
		check.Table(l[:n])
		check.Table(l[n:])
		check.Missing(l[:n])
		check.Missing(l[n:])
		check.Alone(l[n])
		check.In(l[n], 1)
		check.Clash(l[n], l[0])
		if !slices.Equal(l, all) {
			t.Fatalf("%d rules: %#v", n, l)
		}
	}
}

// What is handed in is not kept: a table that is changed is another one.
func TestHandedInNotKept(t *testing.T) {
	l := trial.Ordinary()
	checkTable(t, l, 0, api.OK)
	l[1].Cells = l[0].Cells
	checkTable(t, l, 2, api.ErrTable)
	l[1].Cells, l[1].Left = "\x03", "q"
	checkMissing(t, l, "b")
	l[1].Left = "b"
	checkTable(t, l, 0, api.OK)
}

// P9.5

// readTwice is two unlike rows of some rules, of at most so many, of which the
// cells of one begin the other one's though its rules do not; false, if there
// are none such.
func readTwice(of []api.Rule, most int) (one, other []api.Rule, ok bool) {
	byCells := map[string][]api.Rule{}
	for l := range trial.Rows(of, most) {
		s := trial.Behind(l)
		if same, ok := byCells[s]; ok {
			return same, l, true
		}
		byCells[s] = l
	}
	for s, l := range byCells {
		for to := range len(s) {
			if begin, ok := byCells[s[:to]]; ok && !beginsRow(begin, l) {
				return begin, l, true
			}
		}
	}
	return nil, nil, false
}

// beginsRow tells whether some rules begin others.
func beginsRow(a, b []api.Rule) bool { return len(a) <= len(b) && slices.Equal(a, b[:len(a)]) }

// checkReadOnce asks that rows of a table's rules are read in one way.
func checkReadOnce(t *testing.T, l []api.Rule, most int) {
	t.Helper()
	for row := 1; row <= 3; row++ {
		if one, other, ok := readTwice(trial.OfRow(l, row), most); ok {
			t.Errorf("row %d: %#v and %#v", row, one, other)
		}
	}
}

func TestReadInOneWay(t *testing.T) {
	for _, l := range [][]api.Rule{trial.Table(), trial.Ordinary()} {
		checkTable(t, l, 0, api.OK)
		checkReadOnce(t, l, 2)
	}
}

// Three rules behind each other: some letters, and what else could be taken for them.
func TestReadInOneWayOfThree(t *testing.T) {
	l := trial.Ordinary()
	checkTable(t, l, 0, api.OK)
	checkReadOnce(t, slices.Concat(l[:6], l[26:30], l[36:42], l[48:]), 3)
}

func TestReadInOneWayOfFull(t *testing.T) {
	l := trial.Full()
	checkTable(t, l, 0, api.OK)
	checkReadOnce(t, l, 2)
}

// Of all pairs of rules whose cells are made of two, those of which rows can be
// read twice are of no accepted table; and of each such kind there are some.
func TestReadTwiceNotAccepted(t *testing.T) {
	base, seen := trial.Table(), map[[2]bool]int{}
	var cells []string
	for s := range trial.Texts("\x23\x1c", 3) { // with which no rule of the base begins
		cells = append(cells, s)
	}
	for _, whats := range [][2]int{{1, 1}, {1, 2}, {1, 4}, {2, 2}, {2, 3}, {3, 4}, {3, 3}} {
		for _, one := range cells[1:] {
			for _, other := range cells[1:] {
				pair := []api.Rule{{What: whats[0], Left: "ab", Cells: one, Line: 62}, {What: whats[1], Left: "cd", Cells: other, Line: 63}}
				_, e := check.Table(slices.Concat(base, pair))
				twice := false
				for row := 1; row <= 3; row++ {
					_, _, ok := readTwice(slices.Concat(trial.OfRow(pair, row), trial.OfRow(base[:2], row)), 3)
					twice = twice || ok
				}
				if twice && e == api.OK {
					t.Errorf("%#v: accepted", pair)
				}
				seen[[2]bool{twice, e == api.OK}]++
			}
		}
	}
	if seen[[2]bool{true, false}] < 100 || seen[[2]bool{false, true}] < 100 {
		t.Errorf("%v", seen)
	}
}

// P9.6

func TestInAnotherOrder(t *testing.T) {
	for _, l := range [][]api.Rule{trial.Table(), trial.Ordinary(), trial.Full()} {
		for _, other := range trial.Orders(l) {
			if len(other) != len(l) {
				t.Fatalf("%d of %d rules", len(other), len(l))
			}
			checkTable(t, other, 0, api.OK)
		}
	}
}

// A table that is not accepted is not so in any order.
func TestNotInAnotherOrder(t *testing.T) {
	for _, line := range []string{"word ab 6-1 1", "word ab 12-4 1", "end ab 5 1", "begin ab 13456-1 1", "digit 1 26", "word a 26 1", "word yes 12 1", "sign num 3456-1-1"} {
		for _, other := range trial.Orders(trial.Table(trial.More, line)) {
			if checkWords(t, other) != api.ErrTable {
				t.Errorf("with %q: accepted", line)
			}
		}
	}
}

// Without one rule that is not wanted, without those behind a place, ahead of one, every other one, and all.
func TestWithoutSome(t *testing.T) {
	for _, l := range [][]api.Rule{trial.Ordinary(), trial.Full()} {
		var odd, even []int
		for i := trial.PlainRules; i < len(l); i++ {
			checkTable(t, without(l, i), 0, api.OK)
			checkTable(t, l[:i], 0, api.OK)
			checkTable(t, slices.Concat(l[:trial.PlainRules], l[i:]), 0, api.OK)
			checkTable(t, slices.Concat(l[:trial.PlainRules], l[i:i+1]), 0, api.OK)
			if i%2 == 1 {
				odd = append(odd, i)
			} else {
				even = append(even, i)
			}
		}
		checkTable(t, without(l, odd...), 0, api.OK)
		checkTable(t, without(l, even...), 0, api.OK)
		checkTable(t, without(l, append(odd, even...)...), 0, api.OK)
	}
}
