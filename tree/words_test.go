package tree_test

import (
	"slices"
	"strings"

	"stylus/api"
	"stylus/lex"
	"stylus/trial"
)

// inside says the document's words on what may stand in what, so that no test leans on the program's own table; _ is the tree itself.
var inside = map[byte]string{
	'_': "123pltk",
	'1': ".esn", '2': ".esn", '3': ".esn", 'p': ".esn", 'c': ".esn", 'n': ".esn", 'e': ".esn", 's': ".esn",
	'l': "i", 'i': ".esnl", 't': "r", 'r': "c", 'k': "",
}

// word is a node that knows what is around it, and what is in it.
type word struct {
	kind   byte
	text   string
	at     int
	around *word
	in     []*word
}

// put has a new node as the last one in another.
func put(around *word, kind byte, text string, at int) *word {
	w := &word{kind: kind, text: text, at: at, around: around}
	around.in = append(around.in, w)
	return w
}

// all is a node, and all that are in it, in order.
func (w *word) all() []*word {
	l := []*word{w}
	for _, x := range w.in {
		l = append(l, x.all()...)
	}
	return l
}

// ways is the kinds of all that is around a node, from the innermost on, the tree left out.
func (w *word) ways() string {
	s := ""
	for x := w.around; x.kind != '_'; x = x.around {
		s += string(rune(x.kind))
	}
	return s
}

// ahead is what stands in the same node, ahead of this one.
func (w *word) ahead() []*word {
	return w.around.in[:slices.Index(w.around.in, w)]
}

// notes is how many notes are in a node, those of its lists left out.
func (w *word) notes() int {
	n := 0
	for _, x := range w.in {
		if x.kind == 'n' {
			n++
		}
		if x.kind != 'l' {
			n += x.notes()
		}
	}
	return n
}

// stands tells whether a node may stand where it does, whatever it has in it.
func (w *word) stands() bool {
	if strings.IndexByte(inside[w.around.kind], w.kind) < 0 {
		return false
	}
	if w.around.kind == 'i' && w.kind != 'l' && slices.ContainsFunc(w.ahead(), func(x *word) bool { return x.kind == 'l' }) {
		return false
	}
	switch w.kind {
	case 'c':
		return len(w.ahead()) < 8
	case 'e', 's':
		return !strings.ContainsRune(w.ways(), rune(w.kind))
	case 'n':
		if strings.ContainsAny(w.ways(), "nc") {
			return false
		}
		block := w.around
		for strings.IndexByte("123pi", block.kind) < 0 {
			block = block.around
		}
		return block.notes() == 1
	}
	return true
}

// has tells whether a node that is closed has what it must have.
func (w *word) has() bool {
	switch w.kind {
	case 'l', 't':
		return len(w.in) > 0
	case 'r':
		return len(w.in) > 0 && len(w.in) == len(w.around.in[0].in)
	}
	return true
}

// deep tells whether a node is too deep.
func (w *word) deep() bool {
	s := w.ways() + string(rune(w.kind))
	return w.kind != '.' && len(s) > 32 || strings.Count(s, "l") > 8
}

// long tells whether a node is a text that makes a note too long.
func (w *word) long() bool {
	for x := w.around; x != nil; x = x.around {
		if x.kind != 'n' {
			continue
		}
		n := 0
		for _, y := range x.all() {
			n += len(y.text)
		}
		return n > 60
	}
	return false
}

// row is all nodes in a tree, told from the top.
func (w *word) row() []api.Node {
	var l []api.Node
	for _, x := range w.all()[1:] {
		l = append(l, api.Node{Kind: x.kind, Text: x.text, At: x.at, Size: len(x.all())})
	}
	return l
}

// loose is the row of a source whose brackets are paired, whether or not it may be, with a text node for each of its texts.
func loose(s string) []api.Node {
	l, _, e := lex.Of(s)
	if e != api.OK {
		panic("not read: " + trial.Shown(s))
	}
	all := &word{kind: '_'}
	here := all
	for _, x := range l {
		switch x.Kind {
		case api.LexText:
			put(here, '.', x.Text, x.At)
		case api.LexOpen:
			here = put(here, x.Name, "", x.At)
		case api.LexClose:
			here = here.around
		}
	}
	if here != all {
		panic("not closed: " + trial.Shown(s))
	}
	return all.row()
}

// parsed says the document's words on Parse: of what is read, the first at which there is a fault.
func parsed(s string) (t []api.Node, at int, e api.Errno) {
	l, at, e := lex.Of(s)
	if e != api.OK {
		return nil, at, e
	}
	all := &word{kind: '_'}
	here := all
	nodes := 0
	for _, x := range l {
		if x.Kind == api.LexClose {
			if here == all || !here.has() {
				return nil, x.At, api.ErrForm
			}
			here = here.around
			continue
		}
		kind := x.Name
		if x.Kind == api.LexText {
			kind = '.'
		}
		w := put(here, kind, x.Text, x.At)
		white := len(x.Text) - len(strings.TrimLeft(x.Text, " \n"))
		switch {
		case !w.stands() && x.Kind == api.LexText && white == len(x.Text):
			here.in = w.ahead()
			continue
		case !w.stands():
			return nil, x.At + white, api.ErrForm
		case w.deep():
			return nil, x.At, api.ErrDepth
		case w.long() || nodes == 2000:
			return nil, x.At, api.ErrBound
		}
		nodes++
		if x.Kind == api.LexOpen {
			here = w
		}
	}
	if here != all {
		return nil, len(s), api.ErrForm
	}
	return all.row(), 0, api.OK
}

// fill makes nodes of a row stand in another; false, if their Sizes do not fit.
func fill(around *word, t []api.Node) bool {
	for len(t) > 0 {
		x := t[0]
		if x.Size < 1 || x.Size > len(t) || !fill(put(around, x.Kind, x.Text, 0), t[1:x.Size]) {
			return false
		}
		t = t[x.Size:]
	}
	return true
}

// checked says the document's words on Check.
func checked(t []api.Node) api.Errno {
	all := &word{kind: '_'}
	if !fill(all, t) {
		return api.ErrForm
	}
	deep, bound := false, len(t) > 2000
	for _, w := range all.all()[1:] {
		text := w.kind == '.'
		if !w.stands() || !w.has() || text != (w.text != "") || text && len(w.in) > 0 || strings.Trim(w.text, inTexts) != "" {
			return api.ErrForm
		}
		deep = deep || w.deep()
		bound = bound || w.long()
	}
	switch {
	case deep:
		return api.ErrDepth
	case bound:
		return api.ErrBound
	}
	return api.OK
}

// inTexts is the repertoire, and white.
const inTexts = "abcdefghijklmnopqrstuvwxyzABCDEFGHIJKLMNOPQRSTUVWXYZ0123456789.,;:!?'\"-()/ \n"
