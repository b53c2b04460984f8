package chunk_test

import (
	"math"
	"slices"
	"strings"
	"testing"

	"stylus/api"
	"stylus/chunk"
	"stylus/trial"
)

func TestExamples(t *testing.T) {
	ready(t, trial.Chunks()).lists(map[string]string{
		"but": "but", "But": "cap but", "BUT": "caps but", "bUT": "b caps u t",
		"b": "let b", "B": "let cap b", "x": "let x",
		"Sand": "cap s and", "sanD": "s a n cap d", "SANd": "cap s cap a cap n d",
		"a1b2": "a num 1 let b num 2", "12.5": "num 1 2 . num 5",
		"<ebut>e": "e+ b u t e-",
	})
}

// Where each piece stands: a sign that takes no token at the one that comes behind it, let ahead of all at 0.
func TestPlaces(t *testing.T) {
	a := ready(t, trial.Chunks())
	at := func(what int, left string, from, size int) api.Piece {
		return api.Piece{Rule: a.number(what, left), From: from, Len: size}
	}
	for s, want := range map[string][]api.Piece{
		"BUT":    {at(8, "caps", 0, 0), at(5, "but", 0, 3)},
		"B":      {at(8, "let", 0, 0), at(8, "cap", 0, 0), at(1, "b", 0, 1)},
		"-a1BC2": {at(6, "-", 0, 1), at(1, "a", 1, 1), at(8, "num", 2, 0), at(7, "1", 2, 1), at(8, "let", 3, 0), at(8, "caps", 3, 0), at(1, "b", 3, 1), at(1, "c", 4, 1), at(8, "num", 5, 0), at(7, "2", 5, 1)},
		"<ssAnd": {at(8, "s+", 0, 1), at(1, "s", 1, 1), at(8, "cap", 2, 0), at(1, "and", 2, 3)},
		"coNess": {at(1, "c", 0, 1), at(1, "o", 1, 1), at(8, "cap", 2, 0), at(4, "ness", 2, 4)},
		"tEA>n":  {at(1, "t", 0, 1), at(8, "caps", 1, 0), at(3, "ea", 1, 2), at(8, "n-", 3, 1)},
	} {
		l := trial.Toks(s)
		if got, e := chunk.Of(a.Trie, l); !slices.Equal(got, want) || e != api.OK {
			t.Errorf("%s: %v, %d, want %v", s, got, e, want)
		}
		a.of(l)
	}
}

// P12.1

// Each byte in each kind of token, at each place of a chunk.
func TestCheck(t *testing.T) {
	seen := map[bool]int{}
	for kind := -1; kind <= 5; kind++ {
		for c := range 256 {
			x := api.Tok{Kind: kind, Ch: byte(c), At: c}
			right := oneChunk.MatchString(string([]byte{sortOf(x)}))
			seen[right]++
			for at := range 4 {
				l := slices.Insert(trial.Toks("aA1"), at, x)
				for _, l := range [][]api.Tok{l, {x}} {
					if e := chunk.Check(l); (e == api.OK) != right || e != api.OK && e != api.ErrArg {
						t.Errorf("%v: %d", x, e)
					}
				}
			}
		}
	}
	if seen[true] != 26+26+10+12+3+3 {
		t.Errorf("%d tokens of chunks", seen[true])
	}
}

// Where a token stands in the source counts for nothing.
func TestCheckOfAts(t *testing.T) {
	for _, at := range []int{math.MinInt, -1, 0, 8191, 8192, 1 << 40, math.MaxInt} {
		if e := chunk.Check([]api.Tok{{Kind: 1, Ch: 'a', At: at}, {Kind: 2, Ch: 'e', At: -at}}); e != api.OK {
			t.Errorf("at %d: %d", at, e)
		}
	}
}

// P12.1, P12.2, P12.3

func TestNoToken(t *testing.T) {
	for _, l := range trial.Tables() {
		a := ready(t, l)
		for _, none := range [][]api.Tok{nil, {}, trial.Toks("ab")[1:1]} {
			if got := a.of(none); len(got) > 0 {
				t.Errorf("%v", got)
			}
		}
	}
}

// One token of each sort, by each table; by one of just what is wanted, each is taken as itself.
func TestOneToken(t *testing.T) {
	for _, l := range trial.Tables() {
		a := ready(t, l)
		for c := range 256 {
			for kind := 1; kind <= 3; kind++ {
				if x := []api.Tok{{Kind: kind, Ch: byte(c), At: 7}}; chunk.Check(x) == api.OK {
					a.of(x)
				}
			}
		}
	}
	a := ready(t, trial.Table())
	for i := range len(smalls) {
		a.lists(map[string]string{smalls[i : i+1]: smalls[i : i+1], capitals[i : i+1]: "cap " + smalls[i:i+1]})
	}
	for i := range len(digits) {
		a.lists(map[string]string{digits[i : i+1]: "num " + digits[i:i+1]})
	}
	for i := range len(marks) {
		a.lists(map[string]string{marks[i : i+1]: marks[i : i+1]})
	}
	a.lists(map[string]string{"<e": "e+", ">e": "e-", "<s": "s+", ">s": "s-", "<n": "n+", ">n": "n-"})
}

// P12.2

// A word cased in each way, of one letter, of two, of more; and with a token of each sort beside it.
func TestWord(t *testing.T) {
	a := ready(t, trial.Table("word but 12 0", "word a 16 0", "word it 1346 0", "any bu 126 5"))
	for s, want := range map[string]string{
		"but": "but", "But": "cap but", "BUT": "caps but", "bUt": "", "buT": "", "BUt": "", "bUT": "", "BuT": "",
		"a": "a", "A": "cap a", "it": "it", "It": "cap it", "IT": "caps it", "iT": "",
		"": "", "b": "", "bu": "", "utb": "", "butt": "", "abut": "", "i": "", "t": "", "itit": "", "aa": "", "AA": "", "bu,": "", "1": "", ".": "",
	} {
		if got := a.lefts(a.asWord(trial.Toks(s))); got != want {
			t.Errorf("Word(%s): %s, want %s", s, got, want)
		}
		a.of(trial.Toks(s))
	}
	for _, word := range []string{"but", "But", "BUT", "a", "A", "it", "IT"} {
		for _, beside := range []string{"a", "A", "1", ".", "-", "'", "<e", ">e", "<s", ">s", "<n", ">n", "but"} {
			for _, s := range []string{word + beside, beside + word, beside + word + beside} {
				if got := a.asWord(trial.Toks(s)); got != nil {
					t.Errorf("Word(%s): %s", s, a.lefts(got))
				}
				a.of(trial.Toks(s))
			}
		}
	}
}

// Rules of letters that are no words make no chunk one, and what is a word may still be spelled.
func TestWordOfWordsAlone(t *testing.T) {
	a := ready(t, trial.Table("any and 12346 1", "begin con 46-14 5", "end ness 56-234 3", "inner ea 46-15 20", "word can 14 0", "any ca 16 5"))
	for _, s := range []string{"and", "con", "ness", "ea", "cap", "caps", "num", "let", "e", "n", "s", "a", "And", "AND"} {
		if got := a.asWord(trial.Toks(s)); got != nil {
			t.Errorf("Word(%s): %v", s, got)
		}
	}
	for s, want := range map[string]string{"can": "ca n", "Can": "cap ca n", "CAN": "caps ca n", "cAn": "c cap a n"} {
		if got := a.lefts(a.asSpelled(trial.Toks(s))); got != want {
			t.Errorf("Spelled(%s): %s, want %s", s, got, want)
		}
		a.of(trial.Toks(s))
	}
}

// P12.3

// A run at a chunk's beginning, within it, at its end; behind each sort of token.
func TestRunsOfChunks(t *testing.T) {
	ready(t, trial.Chunks()).lists(map[string]string{
		"sand.": "s and .", ".sand": ". s and", ".sand.": ". s and .", "sand.and": "s and . and", "and-and-and": "and - and - and",
		"1sand": "num 1 let s and", "12sand": "num 1 2 let s and", "1Sand": "num 1 let cap s and", "1SAND": "num 1 let caps s and", "1sAND": "num 1 let s caps and",
		".Sand": ". cap s and", "<esand": "e+ s and", ">esand": "e- s and", "<sSAND>s": "s+ caps s and s-", "1<nsand": "num 1 n+ s and", "1.sand": "num 1 . s and",
		"con1con": "con num 1 let con", "acon.con": "a c o n . con", "con<econ>e": "con e+ con e-", "illness.": "i l l ness .", "illness1": "i l l ness num 1", "illness<e": "i l l ness e+",
		".ness": ". n e s s", "ea.tea": "e a . t ea", "1ea": "num 1 let e a", "1tea": "num 1 let t ea", "(b)": "( b )", "b<e": "b e+", "<eb": "e+ b",
	})
}

// A digit behind a digit, and behind each other sort of token.
func TestDigits(t *testing.T) {
	ready(t, trial.Chunks()).lists(map[string]string{
		"7": "num 7", "77": "num 7 7", "0123456789": "num 0 1 2 3 4 5 6 7 8 9", "a7": "a num 7", "A7": "cap a num 7", "AB7": "caps a b num 7", ".7": ". num 7", "7.7": "num 7 . num 7",
		"7..7": "num 7 . . num 7", "<e7": "e+ num 7", ">e7": "e- num 7", "7<e7>e7": "num 7 e+ num 7 e- num 7", "7a7a7": "num 7 let a num 7 let a num 7", "1,000": "num 1 , num 0 0 0",
		"1e2": "num 1 let e num 2", "1<e2": "num 1 e+ num 2", "12>s": "num 1 2 s-",
	})
}

// Openings and closings need not be paired, nor in any order.
func TestOpenings(t *testing.T) {
	ready(t, trial.Chunks()).lists(map[string]string{
		"<e<s<n>n>s>e": "e+ s+ n+ n- s- e-", ">e<e": "e- e+", ">n>n": "n- n-", "<ee>e": "e+ e e-", "<ss": "s+ s", "b>n": "b n-", "<e.>e": "e+ . e-", "<eB>e": "e+ cap b e-",
	})
}

// A run's rest is all capitals from its first place on, from one within, or has just one capital, at its end.
func TestCapitals(t *testing.T) {
	ready(t, trial.Chunks()).lists(map[string]string{
		"SAND": "caps s and", "ST": "caps st", "CON": "caps con", "NESS": "caps n e s s", "ILLNESS": "caps i l l ness", "TEA": "caps t ea",
		"sAND": "s caps and", "saND": "s a caps n d", "sanD": "s a n cap d", "cST": "c caps st", "aCON": "a caps c o n", "illNESS": "i l l caps ness", "tEA": "t caps ea", "eA": "e cap a",
		"SaND": "cap s a caps n d", "ILLnESS": "cap i cap l cap l n caps e s s", "aB": "a cap b", "AB": "caps a b", "aBC": "a caps b c", "ABc": "cap a cap b c",
	})
}

// A capital with small letters behind it, with none, with a capital behind it: no more letters are taken than there are up to the next capital.
func TestCapitalsWithOthers(t *testing.T) {
	ready(t, trial.Chunks()).lists(map[string]string{
		"And": "cap and", "St": "cap st", "Con": "cap con", "Ness": "cap n e s s", "Ea": "cap e a", "tEa": "t cap ea", "illNess": "i l l cap ness", "aCon": "a cap c o n",
		"A": "cap a", "aA": "a cap a", "AaA": "cap a a cap a", "AAa": "cap a cap a a", "AndAnd": "cap and cap and", "ANdAN": "cap a cap n d caps a n",
		"anD": "a n cap d", "aNd": "a cap n d", "AnD": "cap a n cap d", "ANd": "cap a cap n d", "sTs": "s cap t s", "stSt": "st cap st", "sTSt": "s cap t cap st",
		"coN": "c o cap n", "CoN": "cap c o cap n", "Conx": "cap con x", "ConX": "cap con cap x", "illnesS": "i l l n e s cap s", "illnEss": "i l l n cap e s s", "teA": "t e cap a", "iNessx": "i cap n e s s x",
	})
}

// A rule that would be the best one, but goes beyond the next capital, is not taken; another one is, that is eligible there.
func TestBeyondCapitals(t *testing.T) {
	ready(t, trial.Table("any abc 156 1", "any ab 16 2", "begin abcd 46-2 0", "inner bc 46-5 3", "end bc 56-1 0", "end abc 56-2 0")).lists(map[string]string{
		"abcd": "abcd", "Abcd": "cap abcd", "ABCD": "caps abcd", "abcD": "abc cap d", "AbcD": "cap abc cap d", "abCd": "ab cap c d", "abCD": "ab caps c d", "aBcd": "a cap bc d", "aBcD": "a cap bc cap d",
		"abc": "abc", "xabc": "x abc", "xabC": "x ab cap c", "xaBC": "x a caps bc", "xaBc": "x a cap bc", "xAbC": "x cap ab cap c", "XABC": "caps x abc", "xABC": "x caps abc", "xabcX": "x abc cap x", "xaBcX": "x a cap bc cap x",
	})
}

// Spelled cells that are some word's, as they are, behind those of cap, behind those of caps; and some that are not quite.
func TestGuarded(t *testing.T) {
	ready(t, trial.Alike()).lists(map[string]string{
		"b": "let b", "bA": "b cap a", "bb": "bb", "bbb": "let bb b", "bba": "let bb a", "bab": "let b ab", ".": "let .", "..": "let . .", "...": ". . .", "b.": "let b .", ".b": "let . b", "b,": "b ,", "bb.": "let bb .",
		"b<e": "let b e+", "b1": "let b num 1", "bB": "let b cap b", "bBb": "let b cap b b", "BbB": "cap bb cap b", "BBb": "let cap b cap b b", "b2": "b num 2", "1b": "num 1 let b", "b>e": "b e-",
		"B": "let cap b", "BA": "caps ba", "BAB": "let caps b ab", "BB": "caps bb", "BBA": "let caps bb a", "Bba": "let cap bb a", "Bab": "let cap b ab", "B.": "let cap b .", "BB.": "let caps bb .", "Bb.": "let cap bb .",
		"B1": "let cap b num 1", "B<e": "let cap b e+", "Bb": "cap bb", "a": "a", "A": "cap a", "AA": "caps aa", "aA": "a cap a", "aaA": "a a cap a", "AAA": "caps aaa", "bA1": "b cap a num 1",
		"aaab": "a a ab", "B,": "cap b ,", "<e": "e+", ".B": ". cap b",
	})
}

// By the same table, but without words, nothing is guarded, and nothing is a word.
func TestNotGuarded(t *testing.T) {
	a := ready(t, slices.DeleteFunc(trial.Alike(), func(x api.Rule) bool { return x.What == api.RuleWord }))
	for l := range trial.Rows(trial.Toks("abAB1.<e>e"), 4) {
		if got := a.of(l); !slices.Equal(got, a.spelled(l)) || a.asWord(l) != nil {
			t.Errorf("%s: %s", trial.Told(l), a.lefts(got))
		}
	}
}

// P12.2, P12.3: what the words say, on all short chunks of a few sorts of tokens, and on pieces side by side.
func TestWords(t *testing.T) {
	for _, l := range trial.Tables() {
		a := ready(t, l)
		for l := range chunks() {
			a.of(l)
		}
	}
}

// Each word, and each Left of more letters than one, cased in each way, with others beside it.
func TestLeftsCased(t *testing.T) {
	for _, l := range [][]api.Rule{trial.Chunks(), trial.Alike(), trial.Ordinary(), trial.Crowded()} {
		a := ready(t, l)
		for _, x := range l {
			if x.What > 5 || x.What < 5 && len(x.Left) == 1 {
				continue
			}
			upper := strings.ToUpper(x.Left)
			for at := range len(upper) + 1 {
				for _, s := range []string{upper[:at] + x.Left[at:], x.Left[:at] + upper[at:]} {
					for _, s := range []string{s, "x" + s, s + "X", "1" + s + "."} {
						a.of(trial.Toks(s))
					}
				}
			}
		}
	}
}

// Numbers are those of the rules in their order.
func TestNumbers(t *testing.T) {
	for _, l := range trial.Tables() {
		for _, other := range trial.Orders(l) {
			a := ready(t, other)
			for _, s := range []string{"", "b", "B", "BB", "bab", "aBabb", "But", "a1b2", "conTHEness", "<eWITH>e.", "12.5and", "CAN-aBBA"} {
				a.of(trial.Toks(s))
			}
		}
	}
}

// Long chunks are taken to their end, however they are cased.
func TestLongChunks(t *testing.T) {
	for _, l := range trial.Tables() {
		a := ready(t, l)
		for _, piece := range []string{"a", "A", "aB", "conTHEness", "Abbab", "1", "a1", "<e", ".", "aaaaaaaaaaaaaaaaB"} {
			s := strings.Repeat(piece, 900/len(piece))
			for _, s := range []string{s, s + "illness", "X" + s + "ILLNESS"} {
				a.of(trial.Toks(s))
			}
		}
	}
}

// Lefts of as many letters as may be, where the run begins, and ends, or does so but for a letter.
func TestLongLefts(t *testing.T) {
	const left = "knowledgeful"
	ready(t, trial.Table("end "+left+" 56-234 0", "begin nowledgefulk 46-2 0", "inner owledgefulkn 46-5 0")).lists(map[string]string{
		"k" + left: "k " + left, "Kx" + left: "cap k x " + left, "xK" + left[1:]: "x cap " + left, "xX" + left: "x cap x " + left, "XX" + left: "cap x cap x " + left,
		left + "x": "k n o w l e d g e f u l x", "xX" + left + "x": "x cap x k n o w l e d g e f u l x", "x" + left + "X": "x k n o w l e d g e f u l cap x",
		left[1:] + "k": "nowledgefulk", left[1:] + "kX": "nowledgefulk cap x", "X" + left[1:] + "k": "cap x n o w l e d g e f u l k", "xxN" + left[2:] + "kX": "x x cap n o w l e d g e f u l k cap x",
		"xX" + left[2:] + "kn": "x cap x owledgefulkn", "X" + left[2:] + "kn" + "X": "cap x owledgefulkn cap x", "XO" + left[3:] + "kn": "cap x cap owledgefulkn",
	})
}

// Wrong inputs

// A space, a byte beyond the repertoire, an opening or a closing of another letter, a Kind that there is not; alone, and at each place.
func TestNoChunk(t *testing.T) {
	wrong := []api.Tok{{}}
	for c := range 256 {
		for _, kind := range []int{math.MinInt, -1, 0, 1, 2, 3, 4, 1<<32 + 1, math.MaxInt} {
			if x := (api.Tok{Kind: kind, Ch: byte(c)}); sortOf(x) == '?' {
				wrong = append(wrong, x)
			}
		}
	}
	for _, table := range [][]api.Rule{trial.Chunks(), trial.Packed()} {
		a := ready(t, table)
		for i, x := range wrong {
			a.refused([]api.Tok{x})
			a.refused(slices.Insert(trial.Toks("but"), i%4, x))
			if e := chunk.Check([]api.Tok{x}); e != api.ErrArg {
				t.Errorf("Check(%v): %d", x, e)
			}
		}
		for _, s := range []string{" ", "a b", "but ", " but", "a\nb", "{", "a~", "caf\u00e9", "<p", ">p", "<ia", "a<k>k", "<.", "<E", "<ee>", ">"} {
			a.refused(trial.Toks(s))
		}
	}
	if len(wrong) < 2000 {
		t.Errorf("%d tokens", len(wrong))
	}
}

func TestNobodys(t *testing.T) {
	for _, tr := range trial.Nobodys() {
		a := asked{t, tr, nil, nil}
		for _, s := range []string{"", "a", "but", "B", "1", ".", "<e", "a b", "<p", "\xff", strings.Repeat("sand", 1000)} {
			a.refused(trial.Toks(s))
		}
		for _, l := range [][]api.Piece{nil, {}, {{}}, {{Rule: 1, From: 2, Len: 3}}, {{Rule: -1}}, {{Rule: math.MaxInt}}} {
			if got := chunk.Cells(tr, l); got != "" {
				t.Errorf("Cells(%v): %q", l, got)
			}
		}
	}
}

// P12.4

// Each rule's cells, and those of some behind each other; where they stand counts for nothing.
func TestCells(t *testing.T) {
	for _, table := range trial.Tables() {
		a := ready(t, table)
		var l []api.Piece
		for i, x := range table {
			if got := chunk.Cells(a.Trie, []api.Piece{{Rule: i, From: -i, Len: math.MaxInt}}); got != x.Cells {
				t.Errorf("rule %d: %q, want %q", i, got, x.Cells)
			}
			l = append(l, api.Piece{Rule: i, From: i * 7, Len: -3}, api.Piece{Rule: len(table) - 1 - i, From: math.MinInt})
		}
		if got := chunk.Cells(a.Trie, l); got != a.cells(l) {
			t.Errorf("%d pieces: %q", len(l), got)
		}
		for _, none := range [][]api.Piece{nil, {}} {
			if got := chunk.Cells(a.Trie, none); got != "" {
				t.Errorf("no piece: %q", got)
			}
		}
	}
	a := ready(t, trial.Chunks())
	if got := chunk.Cells(a.Trie, a.of(trial.Toks("a1bC"))); got != "\x01\x3c\x01\x30\x30\x03\x20\x09" {
		t.Errorf("%q", got)
	}
}

// A number below 0, of the rule behind the last one, far beyond; alone, and at each place among others.
func TestCellsOfNone(t *testing.T) {
	for _, table := range trial.Tables() {
		a := ready(t, table)
		for _, rule := range []int{math.MinInt, -1 << 32, -256, -2, -1, len(table), len(table) + 1, 400, 401, 1 << 32, math.MaxInt - 1, math.MaxInt} {
			for at := range 4 {
				l := slices.Insert([]api.Piece{{}, {Rule: 1}, {Rule: len(table) - 1}}, at, api.Piece{Rule: rule})
				if got, alone := chunk.Cells(a.Trie, l), chunk.Cells(a.Trie, l[at:at+1]); got != "" || alone != "" {
					t.Errorf("rule %d of %d at %d: %q, %q", rule, len(table), at, got, alone)
				}
			}
		}
	}
}
