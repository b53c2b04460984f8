package back_test

import (
	"math"
	"slices"
	"strings"
	"testing"

	"stylus/api"
	"stylus/back"
	"stylus/trial"
	"stylus/trie"
)

func TestExamples(t *testing.T) {
	a := ready(t, trial.Fores())
	a.asText("\x03\x00\x30\x30\x03\x00\x20\x03", answer{told: "but b But"})
	a.asChunk("\x3c\x01\x30\x30\x03", answer{told: "1b"})
	a.asChunk("\x18\x20\x0e\x2f", answer{told: "SAND"})
	a.asChunk("\x08", answer{at: 0, e: api.ErrForm})
	a.asChunk("\x01\x08", answer{at: 1, e: api.ErrForm})
	a.asFlows([]api.Flow{{Code: 6, Depth: 1}}, answer{at: 0, e: api.ErrForm})
	a.asFlows([]api.Flow{{Code: 10, Cells: "\x01"}}, answer{at: 0, e: api.ErrForm})
}

// P14.1: Chunk, Text

func TestNoCell(t *testing.T) {
	for _, table := range trial.Tables() {
		a := ready(t, table)
		if l, at, e := back.Chunk(a.Trie, ""); l != nil || at != 0 || e != api.OK {
			t.Errorf("Chunk: %v, %d, %d", l, at, e)
		}
		if l, at, e := back.Text(a.Trie, ""); l != nil || at != 0 || e != api.OK {
			t.Errorf("Text: %v, %d, %d", l, at, e)
		}
	}
}

// A text's blanks are spaces, alone, at its beginning, at its end, and side by side; a chunk has none.
func TestBlanks(t *testing.T) {
	a := ready(t, trial.Fores())
	a.reads("_", " ")
	a.reads("_ _", "  ")
	a.reads("_ _ _ _ _", "     ")
	a.reads("_ a", " a")
	a.reads("a _", "a ")
	a.reads("_ a _", " a ")
	a.reads("_ _ but _ _ it _ _ _", "  but  it   ")
	a.reads("a _ a", "a a")
	a.reads("a _ _ _ a", "a   a")
	for s, at := range map[string]int{"_": 0, "_ _": 0, "_ a": 0, "a _": 1, "a _ a": 1, "but _": 1, "a b _ b": 2, "cap but _ a": 2, "e+ _ a": 2} {
		a.asChunk(a.cells(s), answer{at: at, e: api.ErrForm})
	}
}

// Each chunk of a text is read by itself: neither a row nor what tells how letters are cased holds behind a blank, and each may be a word.
func TestChunksOfText(t *testing.T) {
	a := ready(t, trial.Fores())
	a.reads("caps a _ a", "A a")
	a.reads("a caps _ a", "a a")
	a.reads("cap _ a", " a")
	a.reads("caps but _ but a", "BUT ba")
	a.reads("num 1 _ a", "1 a")
	a.reads("num _ a", " a")
	a.reads("a _ con", "a con")
	a.reads("e+ a _ but _ e-", "<ea but >e")
	a.reads("but _ let b _ but", "but b but")
	a.reads("it _ can _ let x _ c a", "it can x ca")
	a.stops("a _ | ea")
	a.stops("con _ | ness a")
}

// Each word's cells: alone, behind cap, behind caps; and with others.
func TestWords(t *testing.T) {
	a := ready(t, trial.Fores())
	a.reads("but", "but")
	a.reads("cap but", "But")
	a.reads("caps but", "BUT")
	a.reads("it", "it")
	a.reads("cap it", "It")
	a.reads("caps can", "CAN")
	a.reads("let but", "b")
	a.reads("let cap but", "B")
	a.reads("cap cap but", "B")
	a.reads("cap caps but", "B")
	a.reads("caps caps but", "B")
	a.reads("caps cap but", "B")
	a.reads("cap let but", "b")
	a.reads("but a", "ba")
	a.reads("a but", "ab")
	a.reads("but but", "bb")
	a.reads("but cap", "b")
	a.reads("but .", "b.")
	a.reads("cap but .", "B.")
	a.reads(". but", ".b")
	a.reads("e+ but e-", "<eb>e")
	a.reads("but num 1", "b1")
	a.reads("num but", "2")
	b := ready(t, trial.Ordinary())
	b.reads("word:a", "a")
	b.reads("cap word:a", "A")
	b.reads("caps word:a", "A")
	b.reads("caps word:b", "B")
	b.reads("caps knowledge", "KNOWLEDGE")
	b.reads("cap knowledge", "Knowledge")
	for _, table := range trial.Tables() {
		a := ready(t, table)
		for _, x := range table {
			if x.What != api.RuleWord {
				continue
			}
			a.asChunk(x.Cells, answer{told: x.Left})
			a.asChunk(a.cells("cap")+x.Cells, answer{told: strings.ToUpper(x.Left[:1]) + x.Left[1:]})
			a.asChunk(a.cells("caps")+x.Cells, answer{told: strings.ToUpper(x.Left)})
			for _, s := range []string{"a", "cap", "caps", "let", "num", ".", "e+", "e-", "_", "1", "blk"} {
				a.says(x.Cells + a.cells(s))
				a.says(a.cells(s) + x.Cells)
				a.says(a.cells(s) + x.Cells + a.cells(s))
				a.says(a.cells("cap "+s) + x.Cells)
				a.says(a.cells("caps "+s) + x.Cells)
			}
			a.says(x.Cells + x.Cells)
		}
	}
}

// What is a word's cells is that word, though it is other rules' cells, too.
func TestWordsFirst(t *testing.T) {
	a := ready(t, trial.Alike())
	a.reads("b", "a")
	a.reads("b b", "aa")
	a.reads("b b b", "aaa")
	a.reads("cap b b", "Aa")
	a.reads("caps b b", "AA")
	a.reads("b b b b", "bbbb")
	a.reads(".", "d")
	a.reads("cap .", "D")
	a.reads("caps .", "D")
	a.reads(". .", "dd")
	a.reads(". . .", "...")
	a.reads("b num 1", "f")
	a.reads("b cap b", "g")
	a.reads("cap b cap b", "G")
	a.reads("let b", "b")
	a.reads("let .", ".")
}

// Letters of an any, a begin, an inner and an end rule: as they are, behind cap, behind caps.
func TestLetters(t *testing.T) {
	a := ready(t, trial.Fores())
	a.reads("and", "and")
	a.reads("cap and", "And")
	a.reads("caps and", "AND")
	a.reads("con", "con")
	a.reads("cap con", "Con")
	a.reads("caps con", "CON")
	a.reads("t ea", "tea")
	a.reads("t cap ea", "tEa")
	a.reads("t caps ea", "tEA")
	a.reads("a ness", "aness")
	a.reads("a cap ness", "aNess")
	a.reads("a caps ness", "aNESS")
	a.reads("cap s and", "Sand")
	a.reads("cap con cap t cap ea cap ness", "ConTEaNess")
	a.reads("caps con t ea and ness", "CONTEAANDNESS")
	a.reads("cap a ea ness", "Aeaness")
	a.reads("s a n cap d", "sanD")
	a.reads("cap s cap a cap n d", "SANd")
	a.reads("s caps and st", "sANDST")
	for _, table := range trial.Tables() {
		a := ready(t, table)
		for _, x := range table {
			if x.What > api.RuleEnd {
				continue
			}
			for _, s := range []string{"", "a", "cap", "caps", "a cap", "a caps", "caps a", "cap a", "a cap b", "a caps b", "let", ". cap", "e+ caps", "num caps", "num 1 cap", "num 1 let"} {
				for _, behind := range []string{"", "a", "cap a", ". a"} {
					a.says(a.cells(s) + x.Cells + a.cells(behind))
				}
			}
		}
	}
}

// A cap that no letter has come behind is over behind a mark, let, num, an opening and a closing; so is caps, be there letters behind it or not.
func TestCapEnds(t *testing.T) {
	a := ready(t, trial.Fores())
	a.reads("cap . a", ".a")
	a.reads("caps . a", ".a")
	a.reads("caps a . a", "A.a")
	a.reads("cap let a", "a")
	a.reads("caps let a", "a")
	a.reads("caps a let a", "Aa")
	a.reads("cap num let a", "a")
	a.reads("caps num let a", "a")
	a.reads("caps a num let a", "Aa")
	a.reads("cap num 1 let a", "1a")
	a.reads("caps a b num 1 let a", "AB1a")
	for i := range len(marks) {
		mark := marks[i : i+1]
		a.reads("cap "+mark+" a", mark+"a")
		a.reads("caps "+mark+" a", mark+"a")
		a.reads("caps a "+mark+" a", "A"+mark+"a")
		a.reads(mark+" cap a a", mark+"Aa")
	}
	for sign, told := range signs {
		a.reads("cap "+sign+" a", told+"a")
		a.reads("caps "+sign+" a", told+"a")
		a.reads("caps a "+sign+" a", "A"+told+"a")
		a.reads(sign+" cap a a", told+"Aa")
	}
}

// Letters end cap, and not caps.
func TestCapOfOneLetter(t *testing.T) {
	a := ready(t, trial.Fores())
	a.reads("cap a a", "Aa")
	a.reads("cap and and", "Andand")
	a.reads("caps a a and a", "AAANDA")
	a.reads("a cap a a", "aAa")
}

// Caps ends cap, and cap caps.
func TestCapAndCaps(t *testing.T) {
	a := ready(t, trial.Fores())
	a.reads("cap caps a a", "AA")
	a.reads("caps cap a a", "Aa")
	a.reads("caps cap and a", "Anda")
	a.reads("caps a cap a a", "AAa")
	a.reads("caps a cap and a", "AAnda")
	a.reads("cap a caps a a", "AAA")
	a.reads("cap cap a a", "Aa")
	a.reads("caps caps a a", "AA")
	a.reads("cap caps cap a a", "Aa")
	a.reads("caps cap caps a a", "AA")
	a.reads("caps a cap . a", "A.a")
	a.reads("cap", "")
	a.reads("caps", "")
	a.reads("caps cap", "")
	a.reads("a cap", "a")
}

// Digits behind num and behind each other; what ends a number.
func TestNumbers(t *testing.T) {
	a := ready(t, trial.Fores())
	a.reads("num 1", "1")
	a.reads("num 1 2 3 4 5 6 7 8 9 0", "1234567890")
	a.reads("num 1 2 . num 5", "12.5")
	a.reads("num 1 let a", "1a")
	a.reads("num 1 2 let con", "12con")
	a.reads("num 1 let let a", "1a")
	a.reads("num 1 . a", "1.a")
	a.reads("num 1 e- con", "1>econ")
	a.reads("num num 1", "1")
	a.reads("num 1 num 2", "12")
	a.reads("num let a", "a")
	a.reads("num", "")
	a.reads("num 1 let", "1")
	a.reads("num . a", ".a")
	a.reads("a num 1 let b num 2", "a1b2")
	a.reads("num a b j", "120")
	a.reads("num 1 2 caps", "12")
	a.stops("num | k")
	a.stops("num 1 | k")
	a.stops("num | con")
	a.stops("num 1 2 | ea")
}

// Cap and caps behind num, and behind a digit: a letter follows, and no digit.
func TestCapBehindNumbers(t *testing.T) {
	a := ready(t, trial.Fores())
	a.reads("num cap a b", "Ab")
	a.reads("num caps a b", "AB")
	a.reads("num 1 cap a b", "1Ab")
	a.reads("num 1 caps a b", "1AB")
	a.reads("num 1 cap con", "1Con")
	a.reads("num 1 caps con ness", "1CONNESS")
	a.reads("num 1 cap 2", "1B")
	a.reads("num caps 2 3", "BC")
	a.reads("num 1 cap num 2", "12")
	a.reads("num 1 cap let a", "1a")
	a.reads("num 1 cap caps a b", "1AB")
	a.reads("num 1 cap . num 2", "1.2")
	a.stops("num cap | ea")
	a.stops("num 1 caps | ness")
	b := ready(t, trial.Lines(strings.Replace(trial.Plain, "digit 1 1\n", "digit 1 16\n", 1)))
	b.reads("num 1 1", "11")
	b.reads("num 1 cap 2", "1B")
	b.stops("num cap | 1")
	b.stops("num 1 cap | 1")
	b.stops("num 1 caps | 1")
	b.stops("num 1 let | 1")
	b.stops("num 1 . | 1")
	b.stops("num 1 e+ | 1")
	b.stops("| 1")
	b.stops("a | 1")
	b.stops("num | a")
}

// Each opening and each closing, paired or not.
func TestOpenings(t *testing.T) {
	a := ready(t, trial.Fores())
	for sign, told := range signs {
		a.reads(sign, told)
		a.reads(sign+" "+sign, told+told)
		a.reads("a "+sign+" con", "a"+told+"con")
		a.reads("num 1 "+sign+" a", "1"+told+"a")
		a.reads(sign+" _ "+sign, told+" "+told)
		a.reads(sign+" but "+sign, told+"b"+told)
	}
	a.reads("e+ s+ n+ n- s- e-", "<e<s<n>n>s>e")
	a.reads("e- e+", ">e<e")
}

// The row that holds at the beginning, and behind each kind of rule.
func TestRows(t *testing.T) {
	a := ready(t, trial.Fores())
	for _, s := range append(slices.Collect(strings.SplitSeq(marks, "")), "", "let", "e+", "e-", "s+", "s-", "n+", "n-", "a .", "num 1 .", "a let", "num 1 let", "a e+", "num 1 e-", "cap", "caps", ". cap", "let caps", "e+ cap", "num cap", "num caps", "num 1 cap", "num 1 caps cap") {
		a.holds(s, 1)
	}
	for _, s := range []string{"a", "and", "con", "a ea", "a ness", "num 1 let a", ". a", "e+ a", "cap a", "caps a", "a cap", "a caps", "con cap", "a ness caps cap", "num cap a", "a ea caps"} {
		a.holds(s, 2)
	}
	for _, s := range []string{"num", "num 1", "num 1 2", "a num", "a num 1", "num 1 num", ". num", "cap num", "caps a num 1", "num cap num"} {
		a.holds(s, 3)
	}
}

// holds looks whether a row holds behind rules: which others can be read there, and that c's cells, which are 3's, too, are these where it is a digit's.
func (a asked) holds(lefts string, row int) {
	a.Helper()
	for x, rows := range map[string][]int{"con": {1}, "ea": {2}, "ness": {2}, "k": {1, 2}, "c": {1, 2, 3}, ".": {1, 2, 3}} {
		if !slices.Contains(rows, row) {
			a.stops(lefts + " | " + x)
			continue
		}
		got := a.says(a.cells(lefts + " " + x))
		if got.e != api.OK || x == "c" && strings.HasSuffix(got.told, "3") != (row == 3) {
			a.Errorf("%s behind %s: %v", x, lefts, got)
		}
	}
}

// Cells that no chunk is written as, but that can be read.
func TestNotWritten(t *testing.T) {
	a := ready(t, trial.Fores())
	a.reads("s a n d", "sand")
	a.reads("c o n", "con")
	a.reads("n e s s", "ness")
	a.reads("a ness a", "anessa")
	a.reads("s t", "st")
	a.reads("let a", "a")
	a.reads("let let a", "a")
	a.reads("let", "")
	a.reads("a let b", "ab")
	a.reads("a let con", "acon")
	a.reads("caps a", "A")
	a.reads("cap a cap b", "AB")
	a.reads("cap a caps b c", "ABC")
	a.reads("b", "but")
	a.reads("cap b cap u cap t", "BUT")
	a.reads("let but it", "bx")
	a.reads("let can", "c")
	a.reads("num 1 num 2", "12")
	a.reads("caps .", ".")
	a.reads("num e+ a", "<ea")
	a.reads("a . let . a", "a..a")
}

// All cells alone, and all pairs of them, by each table; of three by one. Bytes that are no cells are among them.
func TestEachCell(t *testing.T) {
	for _, table := range trial.Tables() {
		a := ready(t, table)
		for c := range 256 {
			a.says(string([]byte{byte(c)}))
			a.says(string([]byte{1, byte(c)}))
			a.says(string([]byte{byte(c), 1}))
		}
		for i := range 64 * 64 {
			a.says(string([]byte{byte(i / 64), byte(i % 64)}))
		}
	}
	a := ready(t, trial.Fores())
	for i := range 64 * 64 * 64 {
		a.says(string([]byte{byte(i / 64 / 64), byte(i / 64 % 64), byte(i % 64)}))
	}
}

// All short rows of rules of each kind, by each table.
func TestRowsOfRules(t *testing.T) {
	few := []string{"a", "b", "1", ".", "cap", "caps", "num", "let", "e+", "s-", "_", "blk"}
	for _, table := range trial.Tables() {
		a := ready(t, table)
		for l := range trial.Rows(few, 4) {
			a.says(a.cells(strings.Join(l, " ")))
		}
	}
	a := ready(t, trial.Fores())
	for l := range trial.Rows([]string{"con", "ea", "ness", "but", "cap", "caps", "num", "let"}, 5) {
		a.says(a.cells(strings.Join(l, " ")))
	}
	b := ready(t, trial.Ordinary())
	for l := range trial.Rows([]string{"begin:a", "inner:a", "end:n", "word:a", "the", "cap", "caps", "_", ",", "2"}, 4) {
		b.says(b.cells(strings.Join(l, " ")))
	}
}

// Each rule's cells, whole and in part, alone and behind what makes each row hold.
func TestEachRule(t *testing.T) {
	for _, table := range trial.Tables() {
		a := ready(t, table)
		for _, x := range table {
			for size := range len(x.Cells) + 1 {
				for _, s := range []string{"", "a", "num", "num 1", "cap", "a caps", "_", "num cap"} {
					a.says(a.cells(s) + x.Cells[:size])
					a.says(a.cells(s) + x.Cells[:size] + "\x01")
					a.says(a.cells(s) + x.Cells[:size] + "\x00\x01")
				}
			}
		}
	}
}

// A text that is long, and each of its chunks, or it has but one; and one that is spoilt at its end.
func TestTextLong(t *testing.T) {
	a := ready(t, trial.Fores())
	const most = 200000
	for lefts, told := range map[string]string{"but _ let b _": "but b ", "s and": "sand", "caps a": "A", "_": " ", ". con": ".con", "num 1 let c": "1c"} {
		cells := strings.Repeat(a.cells(lefts), most)
		a.asText(cells, answer{told: strings.Repeat(told, most)})
		a.asText(cells+"\x08", answer{at: len(cells), e: api.ErrForm})
		if !strings.Contains(cells, "\x00") {
			a.asChunk(cells, answer{told: strings.Repeat(told, most)})
			a.asChunk(cells+"\x08", answer{at: len(cells), e: api.ErrForm})
		}
	}
}

// Wrong inputs

// Cells at which no rule stands: at the beginning, within, at the end; a rule's, but for its last one.
func TestNoRuleStands(t *testing.T) {
	a := ready(t, trial.Fores())
	for _, c := range []string{"\x28", "\x18", "\x10", "\x30", "\x33", "\x3f", "\x30\x01", "\x28\x05", "\x18\x08", "\x10\x3f"} {
		a.stopsAt(c, 0)
		a.stopsAt("\x01"+c, 1)
		a.stopsAt(c+"\x05\x05", 0)
		a.stopsAt("\x01"+c+"\x05", 1)
		a.stopsAt("\x03\x00"+c, 2)
		a.stopsAt(c+"\x00\x03", 0)
		a.stopsAt("\x00\x03\x00\x20\x03\x00\x01"+c+"\x00"+c, 7)
		a.stopsAt(a.cells("num 1")+c, 2)
		a.stopsAt(a.cells("caps let")+c, 4)
	}
	a.stops("| ness")
	a.stops("a | con")
	a.stops("| ea but")
	a.stops("but cap | con")
}

// Those of blk, cont and ind, whose place is their first one's, which each is alone.
func TestSignsOfLines(t *testing.T) {
	for _, table := range trial.Tables() {
		a := ready(t, table)
		for _, x := range []string{"blk", "cont", "ind"} {
			a.stops("| " + x)
			a.stops("| " + x + " a")
			a.stops("a | " + x)
			a.stops("num 1 | " + x)
			a.stops("cap | " + x)
			a.stops("e+ a | " + x + " e-")
			a.stops("a _ _ | " + x + " _ " + x)
			a.stops("_ | " + x)
		}
	}
}

// Bytes that are no cells.
func TestNoCells(t *testing.T) {
	a := ready(t, trial.Fores())
	for c := 64; c < 256; c++ {
		s := string([]byte{byte(c)})
		a.stopsAt(s, 0)
		a.stopsAt("\x01"+s, 1)
		a.stopsAt("\x03\x00"+s+"\x01", 2)
		a.stopsAt(a.cells("num")+s, 1)
		a.stopsAt(string([]byte{byte(c), 0}), 0)
	}
	for _, x := range []string{"but", "\u2803", "a b", "@'B"} {
		a.stopsAt(x, 0)
	}
}

// Nobody's table has its error first, whatever the cells and the flows are.
func TestNobodys(t *testing.T) {
	for _, tr := range trial.Nobodys() {
		a := asked{T: t, Trie: tr}
		for _, cells := range []string{"", "\x00", "\x01", "\x08", "\xff", "\x01\x00\x33", strings.Repeat("\x03\x00", 1000)} {
			a.none(cells, nil)
			a.none(cells, []api.Flow{})
			a.none(cells, []api.Flow{{Code: 4, Cells: cells}})
			a.none(cells, []api.Flow{{Code: 1}, {Code: 4, Cells: cells}, {Code: 6, Depth: 1}})
			a.none(cells, []api.Flow{{Code: -1, Depth: math.MinInt, Cells: cells}})
			a.none(cells, []api.Flow{{Code: 10, Cells: cells}, {Code: 7}, {Code: 9}, {Code: 8}})
		}
	}
	if l, at, e := back.Tokens((*trie.Trie)(nil), nil); l != nil || at != 0 || e != api.ErrArg {
		t.Errorf("%v, %d, %d", l, at, e)
	}
}

const marks = ".,;:!?'\"-()/"

// signs is what each opening's and each closing's sign is read as.
var signs = map[string]string{"e+": "<e", "e-": ">e", "s+": "<s", "s-": ">s", "n+": "<n", "n-": ">n"}
