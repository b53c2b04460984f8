package rules_test

import (
	"fmt"
	"slices"
	"strings"
	"testing"

	"stylus/api"
	"stylus/rules"
	"stylus/trial"
)

func checkParse(t *testing.T, text string, want ...api.Rule) {
	t.Helper()
	if l, line, e := rules.Parse(text); !slices.Equal(l, want) || line != 0 || e != api.OK {
		t.Fatalf("Parse(%q) = %v, %d, %d, want %v", trial.Shown(text), l, line, e, want)
	}
}

// checkFault asks for the error, and for nothing beside it but the line.
func checkFault(t *testing.T, text string, number int, err api.Errno) {
	t.Helper()
	if l, line, e := rules.Parse(text); len(l) != 0 || line != number || e != err {
		t.Fatalf("Parse(%q) = %v, %d, %d, want %d, %d", trial.Shown(text), l, line, e, number, err)
	}
}

// checkWords asks for what the document's words say of a text; it is the error.
func checkWords(t *testing.T, text string) api.Errno {
	t.Helper()
	l, line, e := parsed(text)
	if e == api.OK {
		checkParse(t, text, l...)
	} else {
		checkFault(t, text, line, e)
	}
	return e
}

// parse is the rules of a table's text that has no fault.
func parse(t *testing.T, text string) []api.Rule {
	t.Helper()
	l, line, e := rules.Parse(text)
	if line != 0 || e != api.OK {
		t.Fatalf("Parse(%q): %d, %d", trial.Shown(text), line, e)
	}
	return l
}

// P8.2: what is parsed

func TestParseExamples(t *testing.T) {
	checkParse(t, "any and 12346 1\n# x\nmark . 256", api.Rule{What: 1, Left: "and", Cells: "\x2f", Prio: 1, Line: 1}, api.Rule{What: 6, Left: ".", Cells: "\x32", Line: 3})
	checkFault(t, "any and 12346 1\nword a", 2, api.ErrTable)
}

func TestParseOfNothing(t *testing.T) {
	for _, text := range []string{"", "\n", "\n\n\n", "#", "##", "# any a 1 1", "#\n", "\n#", "#\n#\n\n# x\n", "#any a 1 1\n#\x00\xff\r", strings.Repeat("\n", 65536), strings.Repeat("#", 65536)} {
		checkParse(t, text)
	}
}

func TestParseOfEachWhat(t *testing.T) {
	for i, word := range []string{"any", "begin", "inner", "end", "word"} {
		checkParse(t, word+" ab 12-3 7", api.Rule{What: i + 1, Left: "ab", Cells: "\x03\x04", Prio: 7, Line: 1})
	}
	for i := range len(marks) {
		checkParse(t, "mark "+marks[i:i+1]+" 256", api.Rule{What: 6, Left: marks[i : i+1], Cells: "\x32", Line: 1})
	}
	for i := range len(digits) {
		checkParse(t, "digit "+digits[i:i+1]+" 1245", api.Rule{What: 7, Left: digits[i : i+1], Cells: "\x1b", Line: 1})
	}
	for _, name := range names {
		checkParse(t, "sign "+name+" 6-6", api.Rule{What: 8, Left: name, Cells: "\x20\x20", Line: 1})
	}
}

// What stands behind the last LF is a line, too.
func TestParseOfLastLine(t *testing.T) {
	x := func(line int) api.Rule { return api.Rule{What: 1, Left: "a", Cells: "\x01", Line: line} }
	checkParse(t, "any a 1 0", x(1))
	checkParse(t, "any a 1 0\n", x(1))
	checkParse(t, "any a 1 0\n\n", x(1))
	checkParse(t, "any a 1 0\nany a 1 0", x(1), x(2))
	checkParse(t, "\nany a 1 0", x(2))
	checkParse(t, "any a 1 0\n#", x(1))
	checkParse(t, "\n\n#\n\nany a 1 0\n\n\nany a 1 0\n# ", x(5), x(8))
	checkFault(t, "any a 1 0\n ", 2, api.ErrTable)
	checkFault(t, "any a 1 0\n\n\nx", 4, api.ErrTable)
}

// A # says nothing just where a line begins with it.
func TestParseOfRemarks(t *testing.T) {
	checkParse(t, "#\nany a 1 0\n#any b 1", api.Rule{What: 1, Left: "a", Cells: "\x01", Line: 2})
	for _, line := range []string{" #", "any a 1 0 #", "any a 1 0#", "any # 1 0", "a#", "mark # 1", "any a 1 #"} {
		checkFault(t, line, 1, api.ErrTable)
	}
}

func TestParseOfLefts(t *testing.T) {
	for size := 1; size <= 14; size++ {
		left := smalls[:size]
		for i, word := range []string{"any", "begin", "inner", "end", "word"} {
			if size <= 12 {
				checkParse(t, word+" "+left+" 1 1", api.Rule{What: i + 1, Left: left, Cells: "\x01", Prio: 1, Line: 1})
			} else {
				checkFault(t, word+" "+left+" 1 1", 1, api.ErrTable)
			}
		}
	}
}

// Of each What each Left of one byte is asked, and some longer ones.
func TestParseOfEachLeft(t *testing.T) {
	for _, k := range kinds {
		behind := " 1"
		if k.prio {
			behind = " 1 1"
		}
		right := 0
		for i := range 256 {
			b := string([]byte{byte(i)})
			for _, left := range []string{b, b + "a", "a" + b, b + b, b + "ca" + b} {
				if checkWords(t, k.word+" "+left+behind) == api.OK {
					right++
				}
			}
		}
		if want := map[string]int{"mark": 12, "digit": 10, "sign": 0}[k.word]; !k.prio && right != want || k.prio && right != 26*5 {
			t.Errorf("%s: %d", k.word, right)
		}
		for _, left := range append([]string{"", "Cap", "CAPS", "ca", "capss", "e", "+", "-", "e+-", "..", "12", "A", "aB", "caf\u00e9"}, names...) {
			checkWords(t, k.word+" "+left+behind)
		}
	}
}

func TestParseOfCells(t *testing.T) {
	for c := byte(1); c < 64; c++ {
		for size := 1; size <= 5; size++ {
			cells := strings.Repeat(string([]byte{c}), size)
			if size <= 4 {
				checkParse(t, "any a "+textOf(cells)+" 1", api.Rule{What: 1, Left: "a", Cells: cells, Prio: 1, Line: 1})
				checkParse(t, "sign ind "+textOf(cells), api.Rule{What: 8, Left: "ind", Cells: cells, Line: 1})
			} else {
				checkFault(t, "any a "+textOf(cells)+" 1", 1, api.ErrTable)
				checkFault(t, "sign ind "+textOf(cells), 1, api.ErrTable)
			}
		}
	}
	checkParse(t, "mark ; 1-2-3-4", api.Rule{What: 6, Left: ";", Cells: "\x01\x02\x04\x08", Line: 1})
}

// Cells that have no text, and texts that are spelled otherwise.
func TestParseOfWrongCells(t *testing.T) {
	for _, dots := range []string{"", "0", "7", "21", "11", "1-", "-1", "-", "1--2", "1-21", "12-7", "1-2-3-4-5", "1-2-3-4-", "A", "a", "1,2", "1+2", "1 2", "1\t", "01", "10", "1_2", "123456-1234567", "1.", "\x01", "\u0661"} {
		for _, k := range kinds {
			left := map[string]string{"mark": ".", "digit": "7", "sign": "cap"}[k.word]
			if k.prio {
				checkFault(t, k.word+" a "+dots+" 1", 1, api.ErrTable)
			} else {
				checkFault(t, k.word+" "+left+" "+dots, 1, api.ErrTable)
			}
		}
	}
}

func TestParseOfPrios(t *testing.T) {
	for prio := range 1002 {
		for i, word := range []string{"any", "begin", "inner", "end", "word"} {
			line := fmt.Sprintf("%s a 1 %d", word, prio)
			if prio <= 99 {
				checkParse(t, line, api.Rule{What: i + 1, Left: "a", Cells: "\x01", Prio: prio, Line: 1})
			} else {
				checkFault(t, line, 1, api.ErrTable)
			}
		}
	}
}

func TestParseOfWrongPrios(t *testing.T) {
	for _, word := range []string{"any", "begin", "inner", "end", "word"} {
		for _, behind := range []string{"", " ", " 00", " 01", " 007", " 099", " 0100", " 100", " -1", " -0", " +1", " +0", " 1.", " 1.0", " 1e1", " 0x1", " 1_0", " a", " 1a", " 1 1", " 1-1", " \u0661", "  1", " 1 ", "\t1", " 4294967296", " 18446744073709551616", " 18446744073709551617", " " + strings.Repeat("9", 1000)} {
			checkFault(t, word+" a 1"+behind, 1, api.ErrTable)
		}
	}
	for _, line := range []string{"mark . 256", "digit 7 1245", "sign cap 6"} {
		for _, behind := range []string{" ", " 0", " 1", " 00", " 99", " a", " -1", "  "} {
			checkFault(t, line+behind, 1, api.ErrTable)
		}
	}
}

// P8.2: what is no rule's line

func TestParseOfWrongWords(t *testing.T) {
	for _, word := range []string{"", "Any", "ANY", "an", "anyy", "a", "words", "mar", "marks", "digits", "signs", "none", "rule", "any:", "any#", "0", "1", "8", "\x00", "\xff"} {
		for _, behind := range []string{" ", " a 1 1", " . 1", " 7 1", " cap 1", " a 1"} {
			checkFault(t, word+behind+"\nx", 1, api.ErrTable)
		}
	}
}

// A word alone, or with less than it wants behind it.
func TestParseOfWordsAlone(t *testing.T) {
	for _, k := range kinds {
		for _, behind := range []string{"", " ", "  ", "   ", " 1", " 1 1", " 1 1 1", " a", " .", " cap"} {
			if k.word == "digit" && behind == " 1 1" {
				continue
			}
			checkFault(t, k.word+behind, 1, api.ErrTable)
		}
	}
}

// A blank too many, too few, or another white byte for it, at each place.
func TestParseOfBlanks(t *testing.T) {
	for _, line := range []string{"any and 12-3 10", "begin a 1 0", "inner ea 2 20", "end ness 56-234 3", "word x 1 99", "mark . 256", "digit 7 1245", "sign cap 6", "sign e+ 6"} {
		for at := range len(line) + 1 {
			for _, white := range []string{" ", "\t", "\r", "\v", "\f", "\u00a0", "\x00"} {
				checkFault(t, line[:at]+white+line[at:], 1, api.ErrTable)
				if at < len(line) && line[at] == ' ' {
					checkFault(t, line[:at]+strings.Repeat(" ", 2)+line[at+1:], 1, api.ErrTable)
					if white != " " {
						checkFault(t, line[:at]+white+line[at+1:], 1, api.ErrTable)
					}
				}
			}
			if at < len(line) && line[at] == ' ' {
				checkFault(t, line[:at]+line[at+1:], 1, api.ErrTable)
				checkFault(t, line[:at]+"\n"+line[at+1:], 1, api.ErrTable)
				checkFault(t, line[:at], 1, api.ErrTable)
				checkFault(t, line[:at+1], 1, api.ErrTable)
				checkFault(t, line[at:], 1, api.ErrTable)
				checkFault(t, line[at+1:], 1, api.ErrTable)
			}
		}
		checkFault(t, line+line, 1, api.ErrTable)
		checkFault(t, line+" "+line, 1, api.ErrTable)
	}
}

// The first line that is wrong is told, whatever stands behind it.
func TestParseFirstWrongLine(t *testing.T) {
	for number := 1; number <= 9; number++ {
		lines := slices.Repeat([]string{"any a 1 1"}, 9)
		for wrong := number; wrong <= 9; wrong++ {
			lines[wrong-1] = "word a"
			checkFault(t, strings.Join(lines, "\n"), number, api.ErrTable)
		}
	}
	checkFault(t, "\n#\n\nany\n", 4, api.ErrTable)
	checkFault(t, strings.Repeat("\n", 65535)+"x", 65536, api.ErrTable)
	checkFault(t, strings.Repeat("#\n", 32767)+" x", 32768, api.ErrTable)
}

// P8.2: the bounds

func TestParseOfAsManyBytes(t *testing.T) {
	for _, text := range []string{rich, "any a 1 1\n", ""} {
		l := parse(t, text)
		remark := "#" + strings.Repeat("x", 65535-len(text))
		checkParse(t, text+remark, l...)
		checkFault(t, text+remark+"x", 0, api.ErrBound)
		checkFault(t, text+remark+"\n", 0, api.ErrBound)
		checkFault(t, "word a\n"+text+remark, 0, api.ErrBound)
	}
	checkFault(t, strings.Repeat("x", 65536), 1, api.ErrTable)
	checkFault(t, strings.Repeat("x", 65537), 0, api.ErrBound)
	checkFault(t, strings.Repeat(" ", 65536), 1, api.ErrTable)
	checkFault(t, strings.Repeat("\n", 65537), 0, api.ErrBound)
	checkFault(t, strings.Repeat("any a 1 1\n", 1<<20), 0, api.ErrBound)
	checkFault(t, "any "+strings.Repeat("a", 65000)+" 1 1", 1, api.ErrTable)
	checkFault(t, "any a "+strings.Repeat("1-", 30000)+"1 1", 1, api.ErrTable)
}

func TestParseOfAsManyRules(t *testing.T) {
	var want []api.Rule
	for i := range 400 {
		want = append(want, api.Rule{What: 1, Left: "a", Cells: "\x01", Prio: 1, Line: i + 1})
	}
	all := strings.Repeat("any a 1 1\n", 400)
	checkParse(t, all, want...)
	checkParse(t, all[:len(all)-1], want...)
	checkParse(t, all+"\n# x\n#\n\n", want...)
	checkFault(t, all+"any a 1 1", 401, api.ErrBound)
	checkFault(t, all+"\n#\nmark . 1\n", 403, api.ErrBound)
	checkFault(t, all+all, 401, api.ErrBound)
	checkFault(t, "\n"+all+"sign cap 1", 402, api.ErrBound)
}

// Of two errors it is that of the first such line; of a line, that it is no rule's.
func TestParseErrorsInOrder(t *testing.T) {
	all := strings.Repeat("any a 1 1\n", 400)
	checkFault(t, all+"word a", 401, api.ErrTable)
	checkFault(t, all+"word a\nany a 1 1", 401, api.ErrTable)
	checkFault(t, all+"any a 1 1\nword a", 401, api.ErrBound)
	checkFault(t, all+"#\n\nword a\nany a 1 1", 403, api.ErrTable)
	checkFault(t, "word a\n"+all+all, 1, api.ErrTable)
	checkFault(t, all[:3990]+"word a\n"+all, 400, api.ErrTable)
	checkFault(t, all+all+strings.Repeat("x", 65536), 0, api.ErrBound)
	checkFault(t, "word a\n"+strings.Repeat("#", 65536), 0, api.ErrBound)
}

// The document's words, on all short texts of pieces.
func TestParseOfShortTexts(t *testing.T) {
	for _, x := range []struct {
		ahead  string
		pieces []string
		most   int
		right  int
	}{
		{"", []string{"any", " ", "a", "1"}, 8, 5},
		{"", []string{"mark", "sign", "cap", " ", ".", "1"}, 6, 3},
		{"", []string{"digit", " ", "1", "\n", "#"}, 7, 20},
		{"any a ", []string{"1", "2", "-", " ", "0", "\n"}, 6, 100},
		{"", []string{"end a 1", " ", "0", "1", "\n", "#", "sign let 2"}, 5, 50},
	} {
		right := 0
		for l := range trial.Rows(x.pieces, x.most) {
			if checkWords(t, x.ahead+strings.Join(l, "")) == api.OK {
				right++
			}
		}
		if right < x.right {
			t.Errorf("%q, %q: %d", x.ahead, x.pieces, right)
		}
	}
}

// The document's words, on a rich table spoilt at each place.
func TestParseOfRichSpoilt(t *testing.T) {
	if e := checkWords(t, rich); e != api.OK {
		t.Fatal(e)
	}
	right, wrong := 0, 0
	for at := range len(rich) {
		texts := []string{rich[:at] + rich[at+1:], rich[:at], rich[at:]}
		for _, c := range " \n#0179-a.A+\x00" {
			texts = append(texts, rich[:at]+string(c)+rich[at+1:], rich[:at]+string(c)+rich[at:])
		}
		for _, text := range texts {
			if checkWords(t, text) == api.OK {
				right++
			} else {
				wrong++
			}
		}
	}
	if right < 1000 || wrong < 5000 {
		t.Errorf("%d right, %d wrong", right, wrong)
	}
}
