package back

import "stylus/api"

// nester reads flows, one behind the other, as nodes within nodes. Of each list
// an l and an i in it are open, of a table t, r and c, and else one node alone:
// so how many stay open tells which ones.
type nester struct {
	*reader
	open []byte // the kinds of what is, the innermost one's last
}

// flow reads one; false, if it may not stand there, or can't be read.
func (n *nester) flow(f api.Flow) bool {
	stay, begins, ok := n.place(f)
	if !ok {
		return false
	}
	n.close(stay)
	n.enter(begins)
	_, ok = n.text(f.Cells)
	return ok
}

// place is how many nodes stay open where a flow begins, and the kinds of those
// that begin with it; and whether it may stand there.
func (n *nester) place(f api.Flow) (stay int, begins string, ok bool) {
	lists, listless := n.lists(), f.Depth == 0
	switch f.Code {
	case api.FlowHead1:
		return 0, "1", listless
	case api.FlowHead2:
		return 0, "2", listless
	case api.FlowHead3:
		return 0, "3", listless
	case api.FlowPara:
		return 0, "p", listless
	case api.FlowList:
		return 2*f.Depth - 2, "li", f.Depth >= 1 && f.Depth <= lists+1
	case api.FlowItem:
		return 2*f.Depth - 1, "i", f.Depth >= 1 && f.Depth <= lists
	case api.FlowTable:
		return 0, "trc", listless
	case api.FlowRow:
		return 1, "rc", listless && n.first() == 't'
	case api.FlowCell:
		return 2, "c", listless && n.first() == 't'
	case api.FlowBreak:
		return 0, "k", listless && f.Cells == ""
	}
	return 0, "", false
}

// first is the kind of what is open first; 0, if nothing is.
func (n *nester) first() byte {
	if len(n.open) == 0 {
		return 0
	}
	return n.open[0]
}

// lists is how many are open.
func (n *nester) lists() int {
	if n.first() != 'l' {
		return 0
	}
	return len(n.open) / 2
}

// close closes what is open, the innermost one first, till so many stay.
func (n *nester) close(stay int) {
	for last := len(n.open) - 1; last >= stay; last-- {
		n.put(api.TokClose, n.open[last])
		n.open = n.open[:last]
	}
}

// enter opens nodes of those kinds, each within the one ahead.
func (n *nester) enter(kinds string) {
	for i := range len(kinds) {
		n.put(api.TokOpen, kinds[i])
	}
	n.open = append(n.open, kinds...)
}
