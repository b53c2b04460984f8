package flat

import (
	"strings"

	"stylus/api"
)

// flowKinds are the kinds of nodes that are flows.
const flowKinds = "123picn"

// What a flow may have said last: nothing yet, or a space; else any other byte.
const (
	nothing = 0 // no text's byte: tree's Check refuses it
	space   = ' '
)

// line is white that no normalised tree has.
const line = '\n'

// wrong tells of each token, asked in order, whether no normalised tree has it
// there: a character that no flow says, white that would not stay, the closing
// of a flow that said a space last. Openings and closings are paired.
func wrong() func(x api.Tok) bool {
	var said []byte // what each open flow said last, the innermost one's last
	return func(x api.Tok) bool {
		last := len(said) - 1
		switch {
		case x.Kind == api.TokChar:
			if last < 0 || !stays(x.Ch, said[last]) {
				return true
			}
			said[last] = x.Ch
		case strings.IndexByte(flowKinds, x.Ch) < 0: // what it has in it, if any, the flow around says
		case x.Kind == api.TokOpen:
			said = append(said, nothing)
		default:
			ended := said[last]
			said = said[:last]
			return ended == space
		}
		return false
	}
}

// stays tells whether a byte stays behind what its flow said last.
func stays(c, said byte) bool {
	switch c {
	case line:
		return false
	case space:
		return said != space && said != nothing
	}
	return true
}
