package tree

import (
	"stylus/api"
	"stylus/chars"
)

// checker goes over a row of nodes, whose Sizes tell where they close.
type checker struct {
	openNodes
	tree []api.Node
}

// Check is the error of a row of nodes; OK, if it is a tree that may be.
func Check(t []api.Node) api.Errno {
	c := checker{openNodes: noneOpen(), tree: t}
	for i := range t {
		if !c.leaveAt(i) || !c.node(i) {
			return api.ErrForm
		}
	}
	if !c.leaveAt(len(t)) {
		return api.ErrForm
	}
	return c.beyond()
}

// leaveAt closes all that ends ahead of a place.
func (c *checker) leaveAt(place int) bool {
	for c.inside() && c.end() == place {
		if !c.leave() {
			return false
		}
	}
	return true
}

// end is the place behind the innermost open node.
func (c *checker) end() int {
	if !c.inside() {
		return len(c.tree)
	}
	from := c.top().from
	return from + c.tree[from].Size
}

// node tells whether the one at a place may be and stand there. Its room is
// reckoned by a difference, since no Size is too large to be handed in.
func (c *checker) node(place int) bool {
	x := c.tree[place]
	room := c.end() - place
	switch {
	case x.Size < 1 || x.Size > room:
		return false
	case x.Kind == api.KindText:
		return x.Size == 1 && isText(x.Text) && c.say(len(x.Text))
	}
	return x.Text == "" && c.enter(x.Kind)
}

// isText tells whether a text node may have that text.
func isText(s string) bool {
	alien := func(c byte) bool { return !chars.Is(c) && !chars.White(c) }
	return s != "" && before(s, alien) == len(s)
}
