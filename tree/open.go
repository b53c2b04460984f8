package tree

import "stylus/api"

// The kinds that have a rule of their own, beside who may stand in whom.
const (
	list     = 'l'
	table    = 't'
	tableRow = 'r'
	cell     = 'c'
	note     = 'n'
	emphasis = 'e'
	strong   = 's'
)

// theTree is what blocks stand in, as if it were a kind; it is no name's letter.
const theTree = "_"

// How late in a node another one may stand. None stands behind one with a
// later rank: so an item has no text behind its lists.
const (
	never = iota
	first
	last
)

// pair is a node's kind, and that of the node right around it.
type pair struct{ outer, inner byte }

// ranks tells of each two kinds whether, and how late, the inner one may stand
// in the outer one.
func ranks() map[pair]int {
	all := map[pair]int{}
	for _, x := range []struct {
		outers, inners string
		rank           int
	}{
		{theTree, "123pltk", first},
		{"123pcnes", ".esn", first},
		{"l", "i", first},
		{"i", ".esn", first},
		{"i", "l", last},
		{"t", "r", first},
		{"r", "c", first},
	} {
		for i := range len(x.outers) {
			for j := range len(x.inners) {
				all[pair{x.outers[i], x.inners[j]}] = x.rank
			}
		}
	}
	return all
}

// level is an open node, and what counts of what stands in it so far.
type level struct {
	kind  byte
	from  int  // its place among all nodes
	lists int  // how many lists are open, up to it
	parts int  // how many nodes stand right in it
	rank  int  // the last one's rank
	cols  int  // of a table: how many cells its first row has
	noted bool // of a block: whether it has a note
	bytes int  // of a note: those of its texts
}

// fits tells whether a row of so many cells is as wide as the table's first
// one, which it is itself if it is the first.
func (l *level) fits(cells int) bool {
	if l.cols == 0 {
		l.cols = cells
	}
	return l.cols == cells
}

// openNodes is the row of them, each within the one ahead, the tree itself as
// the first. Bounds are kept apart from what may not be, since Check asks for
// them in the end alone.
type openNodes struct {
	ranks   map[pair]int
	levels  []level
	nodes   int // all so far, closed ones too
	tooDeep bool
	tooMuch bool
}

func noneOpen() openNodes {
	return openNodes{ranks: ranks(), levels: []level{{kind: theTree[0]}}}
}

func (o *openNodes) top() *level { return &o.levels[o.depth()] }

// depth is how many nodes are open. As e, s and n stand once at most within
// a block, only too many lists take it beyond its bound.
func (o *openNodes) depth() int { return len(o.levels) - 1 }

// inside tells whether a node is open.
func (o *openNodes) inside() bool { return o.depth() > 0 }

// may tells whether a node of that kind may stand here.
func (o *openNodes) may(kind byte) bool {
	in := o.top()
	rank := o.ranks[pair{in.kind, kind}]
	if rank == never || rank < in.rank {
		return false
	}
	switch kind {
	case cell:
		return in.parts < api.MaxCols
	case emphasis, strong:
		return o.within(kind) == nil
	case note: // one within a note would be its block's second one, too
		block := o.block()
		return block.kind != cell && !block.noted
	}
	return true
}

// within is the innermost open node of that kind, which is one of e, s, n; nil,
// if there is none. All such ones stand within the innermost block.
func (o *openNodes) within(kind byte) *level {
	for i := o.depth(); inText(o.levels[i].kind); i-- {
		if o.levels[i].kind == kind {
			return &o.levels[i]
		}
	}
	return nil
}

// block is the innermost open node that is none of e, s, n.
func (o *openNodes) block() *level {
	i := o.depth()
	for inText(o.levels[i].kind) {
		i--
	}
	return &o.levels[i]
}

// inText tells whether nodes of that kind stand beside text.
func inText(kind byte) bool {
	return kind == emphasis || kind == strong || kind == note
}

// enter opens a node, if it may stand here.
func (o *openNodes) enter(kind byte) bool {
	if !o.may(kind) {
		return false
	}
	l := level{kind: kind, from: o.nodes, lists: o.top().lists}
	switch kind {
	case list:
		l.lists++
	case note:
		o.block().noted = true
	}
	o.count(kind)
	o.levels = append(o.levels, l)
	o.tooDeep = o.tooDeep || o.depth() > api.MaxDepth || l.lists > api.MaxLists
	return true
}

// say has a text of so many bytes, if it may stand here.
func (o *openNodes) say(bytes int) bool {
	if !o.may(api.KindText) {
		return false
	}
	o.count(api.KindText)
	if n := o.within(note); n != nil {
		n.bytes += bytes
		o.tooMuch = o.tooMuch || n.bytes > api.MaxNote
	}
	return true
}

// count has one node more in the innermost open one.
func (o *openNodes) count(kind byte) {
	in := o.top()
	in.parts++
	in.rank = o.ranks[pair{in.kind, kind}]
	o.nodes++
	o.tooMuch = o.tooMuch || o.nodes > api.MaxNodes
}

// leave closes the innermost open node, if there is one, and tells whether it
// has what it must have.
func (o *openNodes) leave() bool {
	if !o.inside() {
		return false
	}
	l := *o.top()
	o.levels = o.levels[:o.depth()]
	switch l.kind {
	case list, table:
		return l.parts > 0
	case tableRow:
		return l.parts > 0 && o.top().fits(l.parts)
	}
	return true
}

// beyond is the error of the bounds that the nodes so far go beyond.
func (o *openNodes) beyond() api.Errno {
	switch {
	case o.tooDeep:
		return api.ErrDepth
	case o.tooMuch:
		return api.ErrBound
	}
	return api.OK
}
