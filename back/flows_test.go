package back_test

import (
	"math"
	"strconv"
	"strings"
	"testing"

	"stylus/api"
	"stylus/trial"
)

// P14.2: Tokens

func TestNoFlow(t *testing.T) {
	for _, table := range trial.Tables() {
		a := ready(t, table)
		for _, l := range [][]api.Flow{nil, {}, {{Code: 4}}} {
			if got := a.asFlows(l[:0], answer{}); got != nil {
				t.Errorf("%v", got)
			}
		}
	}
}

// A flow of each code, with cells and without.
func TestEachCode(t *testing.T) {
	a := ready(t, trial.Fores())
	a.nests("<1>1", "1")
	a.nests("<1a>1", "1 a")
	a.nests("<2but a>2", "2 but _ a")
	a.nests("<3>3", "3")
	a.nests("<3A>3", "3 cap a")
	a.nests("<p>p", "4")
	a.nests("<p<e1>e>p", "4 e+ num 1 e-")
	a.nests("<l<i>i>l", "5.1")
	a.nests("<l<ia>i>l", "5.1 a")
	a.nests("<l<i>i<i>i>l", "5.1", "6.1")
	a.nests("<l<ia>i<i.>i>l", "5.1 a", "6.1 .")
	a.nests("<t<r<c>c>r>t", "7")
	a.nests("<t<r<ca>c>r>t", "7 a")
	a.nests("<t<r<c>c>r<r<c>c>r>t", "7", "8")
	a.nests("<t<r<ca>c>r<r<cb>c>r>t", "7 a", "8 let b")
	a.nests("<t<r<c>c<c>c>r>t", "7", "9")
	a.nests("<t<r<ca>c<cand>c>r>t", "7 a", "9 and")
	a.nests("<k>k", "10")
}

// Blocks side by side, without lists and tables open, and behind each of them, however deep.
func TestBlocks(t *testing.T) {
	a := ready(t, trial.Fores())
	a.nests("<1a>1<p>p<k>k<3>3", "1 a", "4", "10", "3")
	a.nests("<k>k<k>k<p>p<p>p<2>2<2>2", "10", "10", "4", "4", "2", "2")
	for code, want := range map[string]string{"1": "<1>1", "2": "<2>2", "3": "<3>3", "4": "<p>p", "5.1": "<l<i>i>l", "7": "<t<r<c>c>r>t", "10": "<k>k"} {
		a.nests("<pa>p"+want, "4 a", code)
		a.nests("<k>k"+want, "10", code)
		a.nests("<l<ia>i>l"+want, "5.1 a", code)
		a.nests("<l<i>i<i>i>l"+want, "5.1", "6.1", code)
		a.nests("<l<i<l<i<l<i>i>l>i<i>i>l>i>l"+want, "5.1", "5.2", "5.3", "6.2", code)
		a.nests("<t<r<ca>c>r>t"+want, "7 a", code)
		a.nests("<t<r<c>c<ca>c>r<r<c>c<c>c>r>t"+want, "7", "9 a", "8", "9", code)
		a.nests(want+"<3but>3", code, "3 but")
	}
}

// A list of depth 1, of the depth that is open, of one more, of less, of each up to the most.
func TestLists(t *testing.T) {
	a := ready(t, trial.Fores())
	a.nests("<l<i>i>l<l<i>i>l", "5.1", "5.1")
	a.nests("<l<ia<l<ib>i>l>i>l", "5.1 a", "5.2 let b")
	a.nests("<l<i<l<i>i>l<l<i>i>l>i>l", "5.1", "5.2", "5.2")
	a.nests("<l<i<l<i>i>l>i>l<l<i>i>l", "5.1", "5.2", "5.1")
	a.nests("<l<i<l<i<l<i>i>l>i>l<l<i>i>l>i>l", "5.1", "5.2", "5.3", "5.2")
	a.nests("<l<i<l<i<l<i>i>l>i>l>i>l<l<i<l<i>i>l>i>l", "5.1", "5.2", "5.3", "5.1", "5.2")
	a.nests("<l<i>i<i<l<i>i>l>i>l", "5.1", "6.1", "5.2")
	a.nests("<l<i<l<i>i>l>i<i<l<i>i>l>i>l", "5.1", "5.2", "6.1", "5.2")
	a.nests("<p>p<l<i>i>l", "4", "5.1")
	for most := 1; most <= api.MaxLists; most++ {
		var texts []string
		for depth := 1; depth <= most; depth++ {
			texts = append(texts, "5."+strconv.Itoa(depth)+" a")
		}
		a.nests(strings.Repeat("<l<ia", most)+strings.Repeat(">i>l", most), texts...)
		for depth := 1; depth <= most; depth++ {
			again := "5." + strconv.Itoa(depth)
			in := strings.Repeat("<l<ia", most) + strings.Repeat(">i>l", most-depth+1) + "<l<i" + strings.Repeat(">i>l", depth)
			a.nests(in, append(texts[:most:most], again)...)
			a.nests(in+"<k>k", append(texts[:most:most], again, "10")...)
		}
		for _, depth := range []int{most + 2, most + 3, 2*most + 2, 0, -1, -most} {
			a.refuses(most, api.ErrForm, append(texts[:most:most], "5."+strconv.Itoa(depth))...)
		}
	}
}

// A further item of each list that is open, of 0, and of more than are.
func TestItems(t *testing.T) {
	a := ready(t, trial.Fores())
	a.nests("<l<ia>i<ia>i<i>i>l", "5.1 a", "6.1 a", "6.1")
	a.nests("<l<i<l<i>i<ia>i>l>i<ib>i>l", "5.1", "5.2", "6.2 a", "6.1 let b")
	a.nests("<l<i<l<i>i>l<l<i>i<i>i>l>i>l", "5.1", "5.2", "5.2", "6.2")
	a.nests("<l<i<l<i<l<i>i>l>i>l>i<i>i>l", "5.1", "5.2", "5.3", "6.1")
	for most := 1; most <= api.MaxLists; most++ {
		var texts []string
		for depth := 1; depth <= most; depth++ {
			texts = append(texts, "5."+strconv.Itoa(depth))
		}
		for depth := 1; depth <= most; depth++ {
			in := strings.Repeat("<l<i", most) + strings.Repeat(">i>l", most-depth) + ">i<ia>i>l" + strings.Repeat(">i>l", depth-1)
			a.nests(in, append(texts[:most:most], "6."+strconv.Itoa(depth)+" a")...)
		}
		for _, depth := range []int{0, -1, -most, most + 1, most + 2, 2 * most, 2*most + 1} {
			a.refuses(most, api.ErrForm, append(texts[:most:most], "6."+strconv.Itoa(depth)+" a")...)
		}
	}
	a.refuses(3, api.ErrForm, "5.1", "5.2", "6.1", "6.2")
	a.refuses(2, api.ErrForm, "5.1", "5.1", "6.2")
	a.refuses(2, api.ErrForm, "5.1", "4", "6.1")
	a.refuses(2, api.ErrForm, "5.1", "7", "6.1")
}

// Rows and cells, of one table and of tables side by side.
func TestTables(t *testing.T) {
	a := ready(t, trial.Fores())
	a.nests("<t<r<c>c>r<r<c>c>r<r<c>c>r>t", "7", "8", "8")
	a.nests("<t<r<ca>c<c>c>r<r<c>c<cb>c>r>t", "7 a", "9", "8", "9 let b")
	a.nests("<t<r<c>c>r>t<t<r<c>c<c>c>r>t<t<r<c>c>r<r<c>c>r>t", "7", "7", "9", "7", "8")
	for most := 1; most <= api.MaxCols; most++ {
		row := []string{"7 a"}
		for range most - 1 {
			row = append(row, "9 a")
		}
		told := "<r" + strings.Repeat("<ca>c", most) + ">r"
		a.nests("<t"+told+">t", row...)
		further := append(row[:most:most], "8 a")
		further = append(further, row[1:]...)
		a.nests("<t"+told+told+">t", further...)
		a.nests("<t"+told+told+">t<t"+told+">t", append(further, row...)...)
	}
}

// A table's further rows and cells where no table is open: at the beginning, behind each other block, and behind a list.
func TestWithoutTable(t *testing.T) {
	a := ready(t, trial.Fores())
	for _, code := range []string{"8", "9"} {
		a.refuses(0, api.ErrForm, code)
		for _, ahead := range []string{"1", "2", "3 a", "4", "4 e+", "10", "5.1"} {
			a.refuses(1, api.ErrForm, ahead, code)
			a.refuses(2, api.ErrForm, "7", ahead, code)
			a.refuses(3, api.ErrForm, "7", "9", ahead, code, code)
		}
		a.refuses(2, api.ErrForm, "5.1", "5.2", code)
		a.refuses(2, api.ErrForm, "5.1", "6.1 a", code)
		a.refuses(1, api.ErrForm, "7", code+".1")
		a.refuses(1, api.ErrForm, "7", code+".-1")
	}
}

// Lists and items without any list open, and lists within none, also where a table is open.
func TestWithoutList(t *testing.T) {
	a := ready(t, trial.Fores())
	for _, ahead := range []string{"1", "2", "3 a", "4", "10", "7"} {
		for _, code := range []string{"5.2", "5.0", "5.-1", "5.3", "6.1", "6.0", "6.2", "6.-1", "5", "6"} {
			a.refuses(0, api.ErrForm, code)
			a.refuses(1, api.ErrForm, ahead, code)
			a.refuses(3, api.ErrForm, "5.1", "5.2", ahead, code)
		}
		a.nests(a.flows(a.flowsOf(ahead)).told+"<l<i>i>l", ahead, "5.1")
	}
	a.refuses(2, api.ErrForm, "7", "9", "5.2")
	a.refuses(2, api.ErrForm, "7", "8", "6.1")
}

// A break has no cells, of whatever they are.
func TestBreak(t *testing.T) {
	a := ready(t, trial.Fores())
	for _, cells := range []string{"a", "_", "cap", "let", "e+ e-", "but", "blk"} {
		a.refuses(0, api.ErrForm, "10 "+cells)
		a.refuses(2, api.ErrForm, "4 a", "10", "10 "+cells, "4")
	}
	a.refusesAll(0, api.ErrForm, []api.Flow{{Code: 10, Cells: "\xff"}})
}

// Codes and depths that there are not.
func TestFarNumbers(t *testing.T) {
	a := ready(t, trial.Fores())
	far := []int{math.MinInt, math.MinInt + 1, math.MinInt/2 - 1, math.MinInt / 2, -1 << 32, -1<<32 + 1, -256, -11, -10, -5, -2, -1, 11, 12, 20, 255, 256, 260, 1 << 32, 1<<32 + 1, 1<<32 + 5, 1<<62 + 1, math.MaxInt/2 + 1, math.MaxInt/2 + 2, math.MaxInt - 1, math.MaxInt}
	for _, x := range far {
		a.refusesAll(0, api.ErrForm, []api.Flow{{Code: x}})
		a.refusesAll(0, api.ErrForm, []api.Flow{{Code: x, Depth: 1}})
		a.refusesAll(1, api.ErrForm, []api.Flow{{Code: 5, Depth: 1}, {Code: x, Depth: 1}})
		a.refusesAll(1, api.ErrForm, []api.Flow{{Code: 7}, {Code: x, Cells: "\x01"}, {Code: 9}})
		for code := 1; code <= 10; code++ {
			a.refusesAll(0, api.ErrForm, []api.Flow{{Code: code, Depth: x}})
			a.refusesAll(1, api.ErrForm, []api.Flow{{Code: 5, Depth: 1}, {Code: code, Depth: x}})
			a.refusesAll(2, api.ErrForm, []api.Flow{{Code: 5, Depth: 1}, {Code: 5, Depth: 2}, {Code: code, Depth: x}})
			a.refusesAll(1, api.ErrForm, []api.Flow{{Code: 7}, {Code: code, Depth: x}})
		}
	}
	a.refusesAll(0, api.ErrForm, []api.Flow{{}})
}

// A depth that is not 0 of a flow that is no item's.
func TestDepthOfOthers(t *testing.T) {
	a := ready(t, trial.Fores())
	for _, code := range []string{"1", "2", "3", "4", "7", "8", "9", "10"} {
		for _, depth := range []string{".1", ".2", ".-1", ".8"} {
			a.refuses(0, api.ErrForm, code+depth)
			a.refuses(1, api.ErrForm, "7", code+depth)
			a.refuses(2, api.ErrForm, "5.1", "5.2", code+depth)
		}
	}
}

// The first flow that can't be read, or may not stand, is told, whichever it is; of one that is both, it.
func TestFirstWrong(t *testing.T) {
	a := ready(t, trial.Fores())
	a.refuses(0, api.ErrForm, "4 blk")
	a.refuses(1, api.ErrForm, "4", "4 a _ a blk")
	a.refuses(1, api.ErrForm, "4", "4 blk", "6.1")
	a.refuses(1, api.ErrForm, "4", "6.1", "4 blk")
	a.refuses(1, api.ErrForm, "4", "6.1 blk", "4 blk")
	a.refuses(2, api.ErrForm, "5.1 a", "5.2 a", "5.3 a ness con", "5.5", "0")
	a.refuses(2, api.ErrForm, "5.1 a", "5.2 a", "5.4 a", "5.5 num k", "0")
	a.refuses(0, api.ErrForm, "9 ind", "4")
	a.refuses(3, api.ErrForm, "7", "9", "8", "9 cont")
	for i := range 5 {
		l := a.flowsOf("5.1 a", "5.2 let b", "6.1", "4 but", "7")
		l[i].Cells += "\x3f"
		a.refusesAll(i, api.ErrForm, l)
		l[4].Depth = -1
		a.refusesAll(i, api.ErrForm, l)
		l[0].Code = 11
		a.refusesAll(0, api.ErrForm, l)
	}
}

// Tokens that come of flows, but are no tree's: each error, at the number of flows.
func TestNoTree(t *testing.T) {
	a := ready(t, trial.Fores())
	for _, cells := range []string{
		"_", "_ a", "a _", "a _ _ a", "e+", "e-", "e+ a", "a e-", "e- e+", "e+ s+ e- s-", "e+ s-", "e+ e+ e- e-", "s+ s+ s- s-", "n+ n+ n- n-", "n+ n- n+ n-",
		"e+ s+ e+ e- s- e-", "a e+ _ e-", "n+ _ n-", "n+ a _ n- a", "e+ _ e- a",
	} {
		for _, code := range []string{"1", "2", "3", "4", "5.1", "7"} {
			a.refuses(1, api.ErrForm, code+" "+cells)
			a.refuses(4, api.ErrForm, "4", "5.1 a", code+" "+cells, "10")
		}
	}
	a.refuses(2, api.ErrForm, "4 e+ a", "4 a e-")
	a.refuses(1, api.ErrForm, "7 n+ n-")
	a.refuses(3, api.ErrForm, "7", "9 e+ n+ n- e-", "9")
	a.refuses(3, api.ErrForm, "7", "9", "8")
	a.refuses(3, api.ErrForm, "7", "8", "9")
	a.refuses(4, api.ErrForm, "7", "9", "8", "7")
	a.refuses(9, api.ErrForm, "7", "9", "9", "9", "9", "9", "9", "9", "9")
	var deep []string
	for depth := 1; depth <= 12; depth++ {
		deep = append(deep, "5."+strconv.Itoa(depth))
		if depth > api.MaxLists {
			a.refuses(depth, api.ErrDepth, deep...)
			a.refuses(depth+2, api.ErrDepth, append(deep[:depth:depth], "4", "10")...)
			a.refuses(depth+1, api.ErrForm, append(deep[:depth:depth], "4 _")...)
			a.refuses(depth, api.ErrForm, append(deep[:depth:depth], "10 a")...)
		}
	}
	note := "4 n+ " + strings.Repeat("and ", api.MaxNote/3)
	a.nests("<p<n"+strings.Repeat("and", api.MaxNote/3)+">n>p", note+"n-")
	a.refuses(1, api.ErrBound, note+"a n-")
	a.refuses(3, api.ErrBound, "4", note+"a n-", "10")
	a.refuses(2, api.ErrForm, note+"a n-", "4 e+")
}

// As many flows as a tree may have nodes, and one more; lists that are ever deeper; many flows.
func TestMany(t *testing.T) {
	a := ready(t, trial.Fores())
	many := func(most int, f func(i int) api.Flow) []api.Flow {
		l := make([]api.Flow, most)
		for i := range l {
			l[i] = f(i)
		}
		return l
	}
	pause := func(int) api.Flow { return api.Flow{Code: 10} }
	a.asFlows(many(api.MaxNodes, pause), answer{told: strings.Repeat("<k>k", api.MaxNodes)})
	for _, most := range []int{api.MaxNodes + 1, 100000} {
		a.asFlows(many(most, pause), answer{at: most, e: api.ErrBound})
		l := many(most, pause)
		l[most-1].Cells = "\x01"
		a.asFlows(l, answer{at: most - 1, e: api.ErrForm})
	}
	const most = 100000
	a.asFlows(many(most, func(i int) api.Flow { return api.Flow{Code: 5, Depth: i + 1, Cells: "\x01"} }), answer{at: most, e: api.ErrDepth})
	a.asFlows(many(most, func(i int) api.Flow { return api.Flow{Code: 5, Depth: i + 1 + i/(most-1)} }), answer{at: most - 1, e: api.ErrForm})
	a.asFlows(many(most, func(i int) api.Flow { return api.Flow{Code: 5 + min(i, 1), Depth: 1} }), answer{at: most, e: api.ErrBound})
}

// Of flows Code, Depth and Cells count alone.
func TestNothingElseCounts(t *testing.T) {
	a := ready(t, trial.Fores())
	for _, x := range []api.Flow{{At: []int{5, 6}, From: -3, To: 99}, {At: []int{}, From: math.MaxInt, To: math.MinInt}, {At: make([]int, 1000)}} {
		l := a.flowsOf("5.1 a", "6.1 but _ let b", "7", "9 cap it", "10")
		want := a.flows(l)
		for i := range l {
			l[i].At, l[i].From, l[i].To = x.At, x.From, x.To
		}
		a.asFlows(l, want)
		l[3].Cells = "\x08"
		a.asFlows(l, answer{at: 3, e: api.ErrForm})
	}
}

// What the words say, on all short rows of flows of each code and of several depths, with cells and without, some of them wrong.
func TestAllShortRows(t *testing.T) {
	for _, table := range trial.Tables() {
		a := ready(t, table)
		for _, texts := range [][]string{
			{"1 a", "2", "4", "5.1", "5.2", "6.1", "7", "8", "9", "10"},
			{"5.1 a", "5.2", "5.3", "5.4", "6.1", "6.2", "6.3", "4"},
			{"4 e+ a", "4 a _", "5.1 blk", "6.1 n+ n-", "7 n+ n-", "8", "9", "10 a", "3.1", "0"},
		} {
			for l := range trial.Rows(a.flowsOf(texts...), 4) {
				a.asFlows(l, a.flows(l))
			}
		}
	}
}
