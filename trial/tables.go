package trial

import (
	"slices"
	"strconv"
	"strings"

	"stylus/api"
	"stylus/rules"
)

// Plain is the text of a table that has just what is wanted, a rule a line.
const Plain = `any a 1 50
any b 12 50
any c 14 50
any d 145 50
any e 15 50
any f 124 50
any g 1245 50
any h 125 50
any i 24 50
any j 245 50
any k 13 50
any l 123 50
any m 134 50
any n 1345 50
any o 135 50
any p 1234 50
any q 12345 50
any r 1235 50
any s 234 50
any t 2345 50
any u 136 50
any v 1236 50
any w 2456 50
any x 1346 50
any y 13456 50
any z 1356 50
mark . 256
mark , 2
mark ; 23
mark : 25
mark ! 235
mark ? 236
mark ' 3
mark " 5-236
mark - 36
mark ( 5-126
mark ) 5-345
mark / 5-34
digit 0 245
digit 1 1
digit 2 12
digit 3 14
digit 4 145
digit 5 15
digit 6 124
digit 7 1245
digit 8 125
digit 9 24
sign cap 6
sign caps 45-6
sign num 3456
sign let 56-56
sign e+ 46-1
sign e- 46-3
sign s+ 45-1
sign s- 45-3
sign n+ 5-1
sign n- 5-3
sign blk 4
sign cont 456
sign ind 2356
`

// PlainRules is how many rules those are.
const PlainRules = 61

// More is lines of contractions that go with them.
const More = `any and 12346 1
any st 34 10
any for 123456 0
any tion 56-1345-3 4
any th 16 20
any the 26-1-1-1 20
any with 26-1-2 20
begin con 46-14 5
begin ab 56-1 5
begin a 56-12 5
begin an 46-2 99
inner con 46-14 5
inner a 46-2 20
inner ea 156 20
end ness 56-1234 3
end ea 56-12 3
end n 56-1 3
word but 12 0
word and 14 0
word a 16 0
word b 12-12 9
word knowledge 13 0
`

// Lines is the rules of lines, each of which must be one's, for a test that
// wants others than it says would show nothing.
func Lines(lines ...string) []api.Rule {
	l, line, e := rules.Parse(strings.Join(lines, "\n"))
	if e != api.OK {
		panic("trial: no rule's line: " + strconv.Itoa(line))
	}
	return l
}

// Table is what is wanted, and those lines.
func Table(lines ...string) []api.Rule {
	return Lines(Plain + strings.Join(lines, "\n"))
}

// Ordinary is what is wanted, and some contractions.
func Ordinary() []api.Rule { return Table(More) }

// PartsLines is the lines of the chapter's examples of runs (11), beside what is
// wanted.
const PartsLines = `any and 12346 1
any st 34 10
begin con 46-14 5
end ness 56-234 3
inner ea 46-15 20
`

// Parts is the table of those examples.
func Parts() []api.Rule { return Table(PartsLines) }

// ChunksLines is the lines of the chapter's examples of chunks (12), beside what
// is wanted.
const ChunksLines = PartsLines + `word but 12 0
word it 1346 0
`

// Chunks is the table of those examples.
func Chunks() []api.Rule { return Table(ChunksLines) }

// Fores is the table of the chapter's examples of flows (13).
func Fores() []api.Rule { return Table(ChunksLines, "word can 14 0") }

// alike is lines of words that are written as other chunks are spelled: as these
// are, or as they are behind cap, or behind caps.
const alike = `begin bb 16 5
inner ab 46-2 5
word a 12 0
word aa 12-12 0
word ab 12-1 0
word aaa 12-12-12 0
word abb 12-1-1 0
word ba 1-1-1 0
word c 16-1 0
word cc 12-46-2 0
word ccc 16-12 0
word d 256 0
word dd 256-256 0
word db 12-256 0
word bd 256-12 0
word de 16-256 0
word e 12-46-1 0
word f 12-3456-1 0
word g 12-6-12 0
word h 12-6-12-12 0
word i 12-12-6-12 0
word j 12-12-256 0
`

// Alike is what is wanted, and those.
func Alike() []api.Rule { return Table(alike) }

// Crowded has rules of each What of letters with all Lefts of up to five letters
// a and b, of few Prios, so that of those that may be taken at a place of a run
// several are of the same one.
func Crowded() []api.Rule {
	l, i := Table(), 0
	for left := range Texts("ab", 5) {
		for what := 1; what <= 5 && left != ""; what++ {
			cells := string([]byte{0x33, byte(0x10 + i%16), byte(0x10 + i/16)})
			prio := i * i / 7 % 5
			i++
			if what > 1 || len(left) > 1 { // any a and any b are wanted, and there
				l = append(l, api.Rule{What: what, Left: left, Cells: cells, Prio: prio, Line: len(l) + 1})
			}
		}
	}
	return l
}

// Fill has rules behind others until there are that many; they clash with none
// of an ordinary table.
func Fill(l []api.Rule, most int) []api.Rule {
	l = slices.Clone(l)
	for i := len(l); i < most; i++ {
		left := string([]byte{'q', byte('a' + i/26%26), byte('a' + i%26)})
		cells := string([]byte{0x33, byte(0x10 + i%16), byte(0x10 + i/16)})
		l = append(l, api.Rule{What: 1 + i%5, Left: left, Cells: cells, Prio: i % 100, Line: i + 1})
	}
	return l
}

// Full is a table of as many rules as may be.
func Full() []api.Rule { return Fill(Ordinary(), api.MaxRules) }

// Packed is as many rules as may be, by which each place of letters a and b has
// several, with some words that look like other chunks.
func Packed() []api.Rule {
	return Fill(append(Crowded(), Lines("word d 256 0", "word dd 14 0", "word ddd 14-256 0")...), api.MaxRules)
}

// Tables is accepted ones: of what is wanted, of the chapters' examples, of words
// that look like other chunks, of some contractions, and of as many rules as may
// be.
func Tables() [][]api.Rule {
	return [][]api.Rule{Table(), Fores(), Alike(), Ordinary(), Full(), Packed()}
}

// whats is the words of rules' Whats, in their order.
const whats = "any begin inner end word mark digit sign"

// CellsOf is the cells of rules by their Lefts, with a space between: of the first
// rule with that Left, or, where its What's word and : stand ahead, as in end:ness,
// of the one of both; a _ is a blank. There must be such rules, for a test that
// wants other cells than it says would show nothing.
func CellsOf(l []api.Rule, lefts string) string {
	s := ""
	for _, name := range strings.Fields(lefts) {
		what, left, _ := strings.Cut(name, ":")
		about := 1 + slices.Index(strings.Fields(whats), what)
		if about == 0 {
			left = name
		}
		i := slices.IndexFunc(l, func(x api.Rule) bool { return x.Left == left && (about == 0 || x.What == about) })
		switch {
		case name == "_":
			s += "\x00"
		case i < 0:
			panic("trial: no rule " + name)
		default:
			s += l[i].Cells
		}
	}
	return s
}

// InRow says the document's words on a rule and a row of a table.
func InRow(x api.Rule, row int) bool {
	switch row {
	case 1:
		return slices.Contains([]int{1, 2, 6, 8}, x.What)
	case 2:
		return slices.Contains([]int{1, 3, 4, 6, 8}, x.What)
	case 3:
		return slices.Contains([]int{7, 6, 8}, x.What)
	}
	return false
}

// OfRow is those of a table's rules that are in one of its rows.
func OfRow(l []api.Rule, row int) []api.Rule {
	var out []api.Rule
	for _, x := range l {
		if InRow(x, row) {
			out = append(out, x)
		}
	}
	return out
}

// Behind is the cells of rules, one behind the other.
func Behind(l []api.Rule) string {
	s := ""
	for _, x := range l {
		s += x.Cells
	}
	return s
}

// Orders is a table's rules in many orders.
func Orders(l []api.Rule) [][]api.Rule {
	back := slices.Clone(l)
	slices.Reverse(back)
	byCells := slices.SortedFunc(slices.Values(l), func(x, y api.Rule) int { return strings.Compare(x.Cells, y.Cells) })
	byLeft := slices.SortedFunc(slices.Values(l), func(x, y api.Rule) int { return strings.Compare(y.Left, x.Left) })
	all := [][]api.Rule{back, byCells, byLeft}
	for n := range 20 {
		from := n * len(l) / 20
		all = append(all, slices.Concat(l[from:], l[:from]))
		var steps []api.Rule
		for first := range n + 2 {
			for i := first; i < len(l); i += n + 2 {
				steps = append(steps, l[i])
			}
		}
		all = append(all, steps)
	}
	return all
}
