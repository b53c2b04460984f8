package norm

import (
	"bytes"
	"strings"

	"stylus/api"
	"stylus/chars"
)

// flowKinds are the kinds of nodes that are flows.
const flowKinds = "123picn"

// space is what all white becomes.
const space = ' '

// rest is what stays of a text node: the node's place among all, where the
// first byte comes from, and the bytes.
type rest struct {
	node int
	at   int
	kept []byte
}

// told is what a flow has told so far: the rests of its texts, but for those of
// which nothing stays.
type told struct {
	rests []rest
}

// end takes the space back behind which nothing stands. There is one at most,
// since none is told behind another one.
func (t *told) end() {
	if len(t.rests) == 0 {
		return
	}
	last := &t.rests[len(t.rests)-1]
	last.kept = bytes.TrimSuffix(last.kept, []byte{space})
}

// flow is one that tells its texts, in order.
type flow struct {
	told
	keep func(c byte) (kept byte, stays bool)
}

func newFlow() *flow { return &flow{keep: keeper()} }

// keeper tells of each byte of a flow, asked in order, what it becomes, and
// whether it stays, by what stands ahead of it. A flow begins as if a space did.
func keeper() func(c byte) (kept byte, stays bool) {
	ahead := byte(space)
	return func(c byte) (byte, bool) {
		if chars.White(c) {
			c = space
		}
		stays := c != space || ahead != space
		ahead = c
		return c, stays
	}
}

// tell has the flow tell its next text, that of the node at a place.
func (f *flow) tell(place int, x api.Node) {
	r := rest{node: place}
	for i := range len(x.Text) {
		c, stays := f.keep(x.Text[i])
		if !stays {
			continue
		}
		if len(r.kept) == 0 {
			r.at = x.At + i
		}
		r.kept = append(r.kept, c)
	}
	if len(r.kept) > 0 {
		f.rests = append(f.rests, r)
	}
}

// flowsOf is the flows of a tree that may be, by their nodes' places, with all
// that they tell, but not ended.
func flowsOf(t []api.Node) map[int]*flow {
	flows := map[int]*flow{}
	var around []int // the places of the flows around, the innermost one last
	for i, x := range t {
		for len(around) > 0 && i == endOf(t, innermost(around)) {
			around = around[:len(around)-1]
		}
		switch {
		case x.Kind == api.KindText:
			flows[innermost(around)].tell(i, x)
		case strings.IndexByte(flowKinds, x.Kind) >= 0:
			flows[i] = newFlow()
			around = append(around, i)
		}
	}
	return flows
}

func innermost(around []int) int { return around[len(around)-1] }

// endOf is the place behind a node, and all that is within it.
func endOf(t []api.Node, place int) int { return place + t[place].Size }

// restsOf is the rest of each text node of a tree, by the nodes' places. Each
// text is of one flow alone, so that it is all one which flow is ended first.
func restsOf(t []api.Node) []rest {
	all := make([]rest, len(t))
	for _, f := range flowsOf(t) {
		f.end()
		for _, r := range f.rests {
			all[r.node] = r
		}
	}
	return all
}
