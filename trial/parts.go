package trial

import (
	"slices"

	"stylus/api"
)

// Allowed is which rules a place of a run allows, by whether it is the run's
// first one, and whether they would end where the run ends.
func Allowed(first, ends bool) []int {
	switch {
	case first:
		return []int{1, 2}
	case ends:
		return []int{1, 3, 4}
	}
	return []int{1, 3}
}

// Stands says the document's words on a rule that is eligible at a place of a
// run, where most letters at most may be taken.
func Stands(x api.Rule, run string, at, most int) bool {
	size := len(x.Left)
	if size < 1 || size > most || size > len(run)-at {
		return false
	}
	for i := range size {
		if run[at+i] != x.Left[i] {
			return false
		}
	}
	return slices.Contains(Allowed(at == 0, size == len(run)-at), x.What)
}

// First is the number of the best of those rules, and true; else 0 and false:
// it has them sorted by all that tells them apart.
func First(l []api.Rule, run string, at, most int) (rule int, ok bool) {
	var all [][]int
	for i, x := range l {
		if Stands(x, run, at, most) {
			all = append(all, []int{x.Prio, -len(x.Left), i})
		}
	}
	if len(all) == 0 {
		return 0, false
	}
	slices.SortFunc(all, slices.Compare)
	return all[0][2], true
}
