package flat

import (
	"iter"
	"slices"

	"stylus/api"
	"stylus/tree"
)

// Tree is the normalised tree with some tokens; or the error of tokens that
// are none's. Whether it is normalised is asked of the tokens, and first, since
// norm says of a tree that is too deep, or too large, no more than that.
func Tree(l []api.Tok) ([]api.Node, api.Errno) {
	t, paired := nodesOf(l)
	if !paired || slices.ContainsFunc(l, wrong()) {
		return nil, api.ErrForm
	}
	if e := tree.Check(t); e != api.OK {
		return nil, e
	}
	return t, api.OK
}

// open is a node that is not closed yet: its opening, and its place among all.
type open struct {
	api.Tok
	place int
}

// grower makes nodes of tokens, in order. It knows what is open by a row, and
// not by calling itself, since tokens may be deeper than any tree.
type grower struct {
	nodes  []api.Node
	around []open // the innermost one last
}

// nodesOf is the nodes that some tokens open, say and close; false, if a token
// does none of these, or openings and closings are not paired.
func nodesOf(l []api.Tok) ([]api.Node, bool) {
	var g grower
	for part := range parts(l) {
		if !g.grow(part) {
			return nil, false
		}
	}
	return g.nodes, len(g.around) == 0
}

// parts goes over tokens, those of characters side by side as one part, any
// other one as a part of its own.
func parts(l []api.Tok) iter.Seq[[]api.Tok] {
	return func(yield func([]api.Tok) bool) {
		for from := 0; from < len(l); {
			to := partEnd(l, from)
			if !yield(l[from:to]) {
				return
			}
			from = to
		}
	}
}

// partEnd is the place behind the part that begins at from.
func partEnd(l []api.Tok, from int) int {
	to := from
	for to < len(l) && l[to].Kind == api.TokChar {
		to++
	}
	return max(to, from+1)
}

func (g *grower) grow(part []api.Tok) bool {
	switch first := part[0]; first.Kind {
	case api.TokChar:
		g.say(part)
	case api.TokOpen:
		g.enter(first)
	case api.TokClose:
		return g.leave(first)
	default:
		return false
	}
	return true
}

// say has a text node of characters.
func (g *grower) say(chars []api.Tok) {
	text := make([]byte, len(chars))
	for i, x := range chars {
		text[i] = x.Ch
	}
	g.nodes = append(g.nodes, api.Node{Kind: api.KindText, Text: string(text), At: chars[0].At, Size: 1})
}

// enter opens a node, whose Size its closing tells.
func (g *grower) enter(x api.Tok) {
	g.around = append(g.around, open{Tok: x, place: len(g.nodes)})
	g.nodes = append(g.nodes, api.Node{Kind: x.Ch, At: x.At})
}

// leave closes the innermost open node, if that is of the closing's kind.
func (g *grower) leave(x api.Tok) bool {
	last := len(g.around) - 1
	if last < 0 || g.around[last].Ch != x.Ch {
		return false
	}
	place := g.around[last].place
	g.nodes[place].Size = len(g.nodes) - place
	g.around = g.around[:last]
	return true
}
