package check_test

import (
	"math"
	"testing"

	"stylus/api"
	"stylus/check"
	"stylus/trial"
)

// P9.1: In

func checkIn(t *testing.T, x api.Rule, row int, want bool) {
	t.Helper()
	if got := check.In(x, row); got != want {
		t.Errorf("In(%#v, %d): %v", x, row, got)
	}
}

// Each What in each row, written out.
func TestInOfEachWhat(t *testing.T) {
	for what, want := range [][3]bool{
		{}, {true, true, false}, {true, false, false}, {false, true, false}, {false, true, false}, {}, {true, true, true}, {false, false, true}, {true, true, true}, {},
	} {
		for i, is := range want {
			checkIn(t, api.Rule{What: what}, i+1, is)
		}
	}
}

var farNumbers = []int{math.MinInt, math.MinInt + 1, -1 << 32, -64, -9, -8, -2, -1, 0, 4, 5, 9, 10, 31, 32, 33, 63, 64, 65, 66, 70, 72, 127, 128, 129, 256, 257, 1 << 32, 1<<32 + 1, 1<<63 - 64, math.MaxInt}

// In a row of another number is none.
func TestInOfOtherRows(t *testing.T) {
	for what := -1; what <= 9; what++ {
		for _, row := range farNumbers {
			checkIn(t, api.Rule{What: what}, row, row >= 1 && row <= 3 && trial.InRow(api.Rule{What: what}, row))
		}
	}
}

// A rule that is about nothing is in none.
func TestInOfOtherWhats(t *testing.T) {
	for _, what := range farNumbers {
		for row := -1; row <= 5; row++ {
			checkIn(t, api.Rule{What: what}, row, trial.InRow(api.Rule{What: what}, row))
		}
	}
}

// All but What counts for nothing.
func TestInByWhatAlone(t *testing.T) {
	for what := range 10 {
		for row := 1; row <= 3; row++ {
			for _, x := range []api.Rule{{Left: "a"}, {Left: "."}, {Cells: "\x01"}, {Prio: 100}, {Line: 7}, {Left: "cap", Cells: "\x20", Prio: -1, Line: -1}} {
				x.What = what
				checkIn(t, x, row, trial.InRow(x, row))
			}
		}
	}
}

// P9.1: Clash

// checkClash asks for the answer both ways round.
func checkClash(t *testing.T, x, y api.Rule, want bool) {
	t.Helper()
	if check.Clash(x, y) != want {
		t.Errorf("Clash(%#v, %#v): %v", x, y, !want)
	}
	if check.Clash(y, x) != want {
		t.Errorf("Clash(%#v, %#v): %v, but not the other way round", y, x, !want)
	}
}

func TestClashExamples(t *testing.T) {
	checkClashLines(t, "any a 1 0", "begin ab 1-12 0", true)
	checkClashLines(t, "any a 1 0", "word x 1 0", false)
	checkClashLines(t, "begin a 1 0", "inner b 1 0", false)
	checkClashLines(t, "sign blk 4", "any c 4-5 0", true)
}

func checkClashLines(t *testing.T, one, other string, want bool) {
	t.Helper()
	checkClash(t, trial.Lines(one)[0], trial.Lines(other)[0], want)
}

// One What, and one Left; next to it another What, or another Left.
func TestClashOfOneLeft(t *testing.T) {
	for i, one := range []string{"any ab 1 0", "begin ab 1 0", "inner ab 1 0", "end ab 1 0", "word ab 1 0", "mark . 1", "digit 7 1", "sign cap 1", "sign e+ 1", "sign ind 1"} {
		for k, other := range []string{"any ab 2 7", "begin ab 2-3 0", "inner ab 2 99", "end ab 2 0", "word ab 2 0", "mark . 2", "digit 7 2", "sign cap 2", "sign e+ 2", "sign ind 2"} {
			checkClashLines(t, one, other, i == k)
		}
		for _, other := range []string{"any abc 2 0", "begin a 2 0", "inner ba 2 0", "end b 2 0", "word aab 2 0", "mark , 2", "digit 8 2", "sign caps 2", "sign e- 2", "sign blk 2"} {
			checkClashLines(t, one, other, false)
		}
	}
}

// A rule is one with itself, whether or not it may be.
func TestClashOfOneRule(t *testing.T) {
	for _, x := range append(trial.Ordinary(), api.Rule{}, api.Rule{What: -1}, api.Rule{What: 9, Left: "A", Cells: "\xff"}) {
		checkClash(t, x, x, true)
		y := x
		y.Cells, y.Prio, y.Line = "\x3f", 98, 1000
		checkClash(t, x, y, true)
	}
}

func TestClashOfWords(t *testing.T) {
	checkClashLines(t, "word ab 1 0", "word cd 1 0", true)
	checkClashLines(t, "word ab 1-2-3-4 0", "word cd 1-2-3-4 5", true)
	checkClashLines(t, "word ab 1 0", "word cd 2 0", false)
	checkClashLines(t, "word ab 1 0", "word cd 1-2 0", false)
	checkClashLines(t, "word ab 1-2-3-4 0", "word cd 1-2-3 0", false)
	checkClashLines(t, "word ab 1-2 0", "word cd 2-1 0", false)
}

// Words are in no row: by their cells they clash with none but signs, and words.
func TestClashOfWordsWithOthers(t *testing.T) {
	for _, word := range []string{"word but 1 0", "word but 1-2 0", "word but 1-2-3 0"} {
		for _, other := range []string{"any b 1 0", "any c 1-2 0", "begin b 1-2 0", "inner b 1-2 0", "end b 1 0", "mark . 1", "mark . 1-2", "digit 1 1"} {
			checkClashLines(t, word, other, false)
		}
	}
}

// The cells of one begin the other one's, in one row or not.
func TestClashOfRows(t *testing.T) {
	lines := []string{"any ab 1", "begin ab 1", "inner ab 1", "end ab 1", "mark . 1", "digit 7 1", "sign cap 1"}
	others := []string{"any cd 1", "begin cd 1", "inner cd 1", "end cd 1", "mark , 1", "digit 8 1", "sign num 1"}
	together := [7][7]bool{
		{true, true, true, true, true, false, true},
		{true, true, false, false, true, false, true},
		{true, false, true, true, true, false, true},
		{true, false, true, true, true, false, true},
		{true, true, true, true, true, true, true},
		{false, false, false, false, true, true, true},
		{true, true, true, true, true, true, true},
	}
	behind := func(line, dots string) string {
		if line[0] == 'm' || line[0] == 'd' || line[0] == 's' {
			return line + dots
		}
		return line + dots + " 0"
	}
	for i, one := range lines {
		for k, other := range others {
			for dots, begin := range map[string]bool{"": true, "-1": true, "-2-3-4": true, "2": false, "2-1": false} {
				checkClashLines(t, behind(one, ""), behind(other, dots), begin && together[i][k])
				checkClashLines(t, behind(one, dots), behind(other, ""), begin && together[i][k])
				checkClashLines(t, behind(one, dots), behind(other, dots), together[i][k])
			}
			checkClashLines(t, behind(one, "-2"), behind(other, "-3"), false)
			checkClashLines(t, behind(one, "-2-1"), behind(other, "-2-3"), false)
		}
	}
}

// What signs tell lines apart must not be seen within another rule's cells, wherever; what others do may.
func TestClashOfLayout(t *testing.T) {
	for _, name := range names {
		layout := name == "blk" || name == "cont" || name == "ind"
		for _, word := range []string{"any ab ", "begin ab ", "inner ab ", "end ab ", "word ab "} {
			for _, dots := range []string{"1-4", "1-4-1", "1-2-4", "1-2-3-4", "1-4-4-1"} {
				checkClashLines(t, "sign "+name+" 4", word+dots+" 0", layout)
			}
			for _, dots := range []string{"1", "1-2-3", "1-14-45", "14-24-34-1"} {
				checkClashLines(t, "sign "+name+" 4", word+dots+" 0", false)
			}
		}
		sign := "sign s- "
		if name == "s-" {
			sign = "sign n+ "
		}
		for _, other := range []string{"mark . 1-4", "digit 7 1-4", sign + "1-4", sign + "1-2-3-4"} {
			checkClashLines(t, "sign "+name+" 4", other, layout)
		}
		for _, other := range []string{"mark . 1-2", "digit 7 1-45", sign + "1-14", sign + "1-2-3-456"} {
			checkClashLines(t, "sign "+name+" 4", other, false)
		}
	}
	checkClashLines(t, "digit 7 4", "sign blk 4", true)
	checkClashLines(t, "digit 7 4", "sign ind 4-1", true)
	checkClashLines(t, "word ab 2-3-4-5 0", "sign cont 3-4", true)
	checkClashLines(t, "word ab 2-3-4-5 0", "sign cont 4-3", false)
	checkClashLines(t, "word ab 3 0", "sign cont 3-4", false)
	checkClashLines(t, "mark ( 1-4", "mark ) 4", false)
}

// A sign's cells begin a word's; a word's may begin a sign's.
func TestClashOfSignsAndWords(t *testing.T) {
	for _, name := range names[:10] {
		checkClashLines(t, "sign "+name+" 6", "word ab 6 0", true)
		checkClashLines(t, "sign "+name+" 6", "word ab 6-1 0", true)
		checkClashLines(t, "sign "+name+" 45-6", "word ab 45-6-1-2 0", true)
		checkClashLines(t, "sign "+name+" 45-6", "word ab 45 0", false)
		checkClashLines(t, "sign "+name+" 45-6", "word ab 45-16 0", false)
		checkClashLines(t, "sign "+name+" 6", "word ab 1-6 0", false)
		checkClashLines(t, "sign "+name+" 6", "word ab 16 0", false)
	}
}

// samples is rules of each What, and of what is none, with short cells, or without any.
func samples() []api.Rule {
	var l []api.Rule
	for _, x := range []api.Rule{{What: -1}, {What: 0, Left: "a"}, {What: 1, Left: "a"}, {What: 2, Left: "a"}, {What: 2, Left: "b"}, {What: 3, Left: "b"}, {What: 4, Left: "a"}, {What: 5, Left: "a"}, {What: 5, Left: "ab"}, {What: 5, Left: "blk"}, {What: 6, Left: "."}, {What: 6, Left: "blk"}, {What: 7, Left: "1"}, {What: 8, Left: "cap"}, {What: 8, Left: "let"}, {What: 8, Left: "blk"}, {What: 8, Left: "cont"}, {What: 8, Left: "ind"}, {What: 8, Left: "BLK"}, {What: 9, Left: "ind"}} {
		for _, cells := range []string{"", "\x01", "\x02", "\x01\x01", "\x01\x02", "\x02\x01", "\x02\x02", "\x01\x01\x02", "\x01\x02\x01", "\x02\x01\x01\x02", "\x00", "\xff\x01"} {
			x.Cells, x.Line = cells, len(l)
			l = append(l, x)
		}
	}
	return l
}

func TestClashWords(t *testing.T) {
	clashes, l := 0, samples()
	for _, x := range l {
		for _, y := range l {
			want := clash(x, y)
			if want {
				clashes++
			}
			if got := check.Clash(x, y); got != want {
				t.Errorf("Clash(%#v, %#v): %v", x, y, got)
			}
		}
	}
	if clashes < 1000 || clashes > len(l)*len(l)/2 {
		t.Errorf("%d clashes of %d rules", clashes, len(l))
	}
}
