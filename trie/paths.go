package trie

// root is the place from which all paths go.
const root = 0

// step is one from a place, over a cell.
type step struct {
	place int
	cell  byte
}

// paths is the rules of a row, each at the end of its path over its cells. As
// no rule's cells begin another one's, no path goes on behind a rule.
type paths struct {
	steps map[step]int // the places to which they lead
	ends  map[int]int  // the rules by the places at which their paths end
}

func newPaths() paths {
	return paths{steps: map[step]int{}, ends: map[int]int{}}
}

// add lays a rule's path.
func (p paths) add(cells string, rule int) {
	place := root
	for i := range len(cells) {
		s := step{place, cells[i]}
		next, ok := p.steps[s]
		if !ok {
			next = len(p.steps) + 1 // each place but the root has one step to it
			p.steps[s] = next
		}
		place = next
	}
	p.ends[place] = rule
}

// first is the number of the rule with which some cells begin, and true; else 0
// and false.
func (p paths) first(cells string) (rule int, ok bool) {
	place := root
	for i := range len(cells) {
		place, ok = p.steps[step{place, cells[i]}]
		if !ok {
			return 0, false
		}
		if rule, ok = p.ends[place]; ok {
			return rule, true
		}
	}
	return 0, false
}
