package chunk

import (
	"sort"

	"stylus/api"
	"stylus/chars"
	"stylus/part"
)

// run takes a run, from a token on: as long as its letters are mixed, up to the
// next capital each time; then the rest at once, as one sign tells how all of it
// is cased. A part never goes beyond where the rest begins, since in front of
// that a capital is still to come, and no part goes beyond the next one.
func (k *taker) run(text string, from int) {
	if k.behindDigit(from) {
		k.tell("let", from)
	}
	low, rest := chars.Low(text), unmixed(text)
	for at := 0; at < rest; {
		to := nextCapital(text, at+1)
		k.tellCase(text[at:to], from+at)
		for at < to {
			at += k.putPart(k.best(low, at, to-at), from+at)
		}
	}
	k.tellCase(text[rest:], from+rest)
	at := from + rest
	for _, rule := range part.All(k.Trie, low, rest) {
		at += k.putPart(rule, at)
	}
}

// putPart puts the piece of a rule of letters, and answers how many it takes.
func (k *taker) putPart(rule, from int) int {
	size := len(k.rules[rule].Left)
	k.put(rule, from, size)
	return size
}

// best is the number of the best rule at a place of a run. Only the letters
// that a rule can tell apart are asked of, so that a long run does not cost
// more at each place: the one ahead, as there may be none, and one more than a
// Left has, as the run may end there.
func (k *taker) best(low string, at, most int) int {
	near := low[max(at-1, 0):min(at+api.MaxLetters+1, len(low))]
	rule, _ := part.Best(k.Trie, near, min(at, 1), most)
	return rule
}

// unmixed is the first place of a run from which on its letters are not mixed:
// if they are not from one place on, they are not from any behind it.
func unmixed(text string) int {
	return sort.Search(len(text), func(at int) bool { return chars.Case(text[at:]) != api.CaseMixed })
}

// nextCapital is the place of the first capital of a run from a place on, or
// the run's end.
func nextCapital(text string, from int) int {
	for at := from; at < len(text); at++ {
		if chars.Class(text[at]) == api.ClassUpper {
			return at
		}
	}
	return len(text)
}
