package check

import (
	"strings"

	"stylus/api"
)

// In tells whether a rule is in that row of a table.
func In(x api.Rule, row int) bool {
	return x.What > 0 && whatsOf(row)>>x.What&1 == 1 // a shift by less than 0 panics, one by too much leaves nothing
}

// whatsOf is the set of the Whats whose rules are in that row.
func whatsOf(row int) uint {
	switch row {
	case api.RowBegin:
		return withShared(api.RuleAny, api.RuleBegin)
	case api.RowInner:
		return withShared(api.RuleAny, api.RuleInner, api.RuleEnd)
	case api.RowNumber:
		return withShared(api.RuleDigit)
	}
	return 0
}

// shared is the Whats whose rules are in every row, a bit for each.
const shared uint = 1<<api.RuleMark | 1<<api.RuleSign

// withShared is the set of these Whats, and of those that every row has.
func withShared(whats ...int) uint {
	set := shared
	for _, what := range whats {
		set |= 1 << what
	}
	return set
}

// Clash tells whether two rules clash.
func Clash(x, y api.Rule) bool {
	return about(x, y) || sameWords(x, y) || hides(x, y) || hides(y, x)
}

// sameWords tells whether two rules are words' that are written alike.
func sameWords(x, y api.Rule) bool {
	return x.What == api.RuleWord && y.What == api.RuleWord && x.Cells == y.Cells
}

// hides tells whether a reader could take what stands for y for x.
func hides(x, y api.Rule) bool {
	if laysOut(x) {
		return strings.Contains(y.Cells, x.Cells)
	}
	return strings.HasPrefix(y.Cells, x.Cells) && together(x, y)
}

// together tells whether a reader looks for both rules at one place: for two of
// one row; and for a sign where a chunk that may be a word begins.
func together(x, y api.Rule) bool {
	return oneRow(x, y) || x.What == api.RuleSign && y.What == api.RuleWord
}

// oneRow tells whether two rules are in one row.
func oneRow(x, y api.Rule) bool {
	for row := api.RowBegin; row <= api.RowNumber; row++ {
		if In(x, row) && In(y, row) {
			return true
		}
	}
	return false
}
