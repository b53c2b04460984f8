package fore

import (
	"slices"

	"stylus/api"
)

// flows is all of them, written. Only items stand in lists, so that each flow is
// as deep as there are lists open.
func (w writer) flows() ([]api.Flow, api.Errno) {
	var all []api.Flow
	lists := 0
	for at, x := range w.toks {
		if x.Ch == 'l' {
			lists += step(x.Kind)
		}
		code := w.code(at)
		if code == 0 {
			continue
		}
		f, e := w.flow(api.Flow{Code: code, Depth: lists, From: at + 1, To: w.textEnd(at + 1)})
		if e != api.OK {
			return nil, e
		}
		all = append(all, f)
	}
	return all, api.OK
}

// step is how many nodes more are open behind a token of a kind than ahead.
func step(kind int) int {
	switch kind {
	case api.TokOpen:
		return 1
	case api.TokClose:
		return -1
	}
	return 0
}

// code is that of the flow that is opened at a place; 0, if none is.
func (w writer) code(at int) int {
	if w.toks[at].Kind != api.TokOpen {
		return 0
	}
	switch w.toks[at].Ch {
	case '1':
		return api.FlowHead1
	case '2':
		return api.FlowHead2
	case '3':
		return api.FlowHead3
	case 'p':
		return api.FlowPara
	case 'i':
		return w.itemCode(at)
	case 'c':
		return w.cellCode(at)
	case 'k':
		return api.FlowBreak
	}
	return 0
}

// itemCode is that of an item that is opened at a place.
func (w writer) itemCode(at int) int {
	if w.first(at) {
		return api.FlowList
	}
	return api.FlowItem
}

// cellCode is that of a cell that is opened at a place. Ahead of a row's first
// one that row is opened.
func (w writer) cellCode(at int) int {
	switch {
	case !w.first(at):
		return api.FlowCell
	case w.first(at - 1):
		return api.FlowTable
	}
	return api.FlowRow
}

// first tells whether the item, cell or row that is opened at a place is the
// first one in what it stands in. Ahead of it that is opened then, and else the
// one before it is closed, for no texts stand between.
func (w writer) first(at int) bool { return w.toks[at-1].Kind == api.TokOpen }

// textEnd is where a flow's text ends that begins at a place: what it is in is
// closed there, or its first list is opened.
func (w writer) textEnd(from int) int {
	return from + slices.IndexFunc(w.toks[from:], func(x api.Tok) bool {
		return x.Kind != api.TokChar && x.Ch != 'e' && x.Ch != 's' && x.Ch != 'n'
	})
}
