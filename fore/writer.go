package fore

import (
	"slices"

	"stylus/api"
	"stylus/chunk"
	"stylus/trie"
)

// writer writes texts of some tokens by a table.
type writer struct {
	table *trie.Trie
	rules []api.Rule // asked once, since each time they are copied
	toks  []api.Tok
}

// begun is a flow whose text is being written. Its cells are bytes meanwhile,
// since a text that grows would be copied each time.
type begun struct {
	api.Flow
	cells []byte
}

// begin is a writer, or the error of nobody's table.
func begin(t *trie.Trie, l []api.Tok) (writer, api.Errno) {
	rules := t.Rules()
	if len(rules) == 0 { // nobody's tables alone have none
		return writer{}, api.ErrArg
	}
	return writer{table: t, rules: rules, toks: l}, api.OK
}

// flow is a flow with its text, which it tells where to find, written.
func (w writer) flow(f api.Flow) (api.Flow, api.Errno) {
	b := begun{Flow: f}
	for at := b.From; at < b.To; {
		if space(w.toks[at]) {
			b.put(string([]byte{api.Blank}), at)
			at++
			continue
		}
		to := w.chunkEnd(at, b.To)
		if e := w.chunk(&b, at, to); e != api.OK {
			return api.Flow{}, e
		}
		at = to
	}
	b.Cells = string(b.cells)
	return b.Flow, api.OK
}

// put puts cells that come from one token.
func (b *begun) put(cells string, at int) {
	b.cells = append(b.cells, cells...)
	for range len(cells) {
		b.At = append(b.At, at)
	}
}

// chunk writes a chunk, which has tokens.
func (w writer) chunk(b *begun, from, to int) api.Errno {
	pieces, e := chunk.Of(w.table, w.toks[from:to])
	for _, x := range pieces {
		b.put(w.rules[x.Rule].Cells, from+x.From)
	}
	return e
}

// chunkEnd is the place of the first space of a text from a place on, or the
// text's end.
func (w writer) chunkEnd(from, to int) int {
	if size := slices.IndexFunc(w.toks[from:to], space); size >= 0 {
		return from + size
	}
	return to
}

// space tells whether a token is one.
func space(x api.Tok) bool { return x.Kind == api.TokChar && x.Ch == ' ' }
