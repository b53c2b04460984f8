package norm_test

import (
	"strings"

	"stylus/api"
	"stylus/trial"
)

// spot is a byte of a text node, in the flow of that node; gone tells whether it went.
type spot struct {
	c    byte
	node int
	flow int
	at   int
	gone bool
}

// normed says the document's words of a tree that may be, one by one.
func normed(t []api.Node) []api.Node {
	var spots []*spot
	for i, x := range t {
		for j := range len(x.Text) {
			spots = append(spots, &spot{c: x.Text[j], node: i, flow: trial.Around(t, i, "123picn"), at: x.At + j})
		}
	}
	oneSpace(spots)
	for i := range t {
		ofFlow(spots, i)
	}
	return side(t, spots)
}

// oneSpace says 1: in each text each longest row of white becomes one space, at the place of its first byte.
func oneSpace(spots []*spot) {
	for i, x := range spots {
		if x.c != ' ' && x.c != '\n' {
			continue
		}
		x.c = ' '
		x.gone = i > 0 && spots[i-1].node == x.node && spots[i-1].c == ' '
	}
}

// ofFlow says 2 of one flow: which spaces go.
func ofFlow(spots []*spot, flow int) {
	var l []*spot
	for _, x := range spots {
		if x.flow == flow && !x.gone {
			l = append(l, x)
		}
	}
	for i, x := range l {
		if x.c == ' ' {
			behind := text(l[i+1:])
			ahead := text(l[:i])
			x.gone = ahead == "" || strings.HasSuffix(ahead, " ") || strings.Trim(behind, " ") == ""
		}
	}
}

// text is the bytes of those spots that did not go.
func text(l []*spot) string {
	s := ""
	for _, x := range l {
		if !x.gone {
			s += string(rune(x.c))
		}
	}
	return s
}

// side says 3: texts without Text go, and those that then stand side by side become one.
func side(t []api.Node, spots []*spot) []api.Node {
	var l []api.Node
	var was, in []int // of each node of l, its place in t, and that of the node around it
	for i, x := range t {
		here := trial.Around(t, i, "123plitrcnesk")
		if x.Kind == '.' {
			x.Text = ""
			for _, s := range spots {
				if s.node == i && !s.gone {
					if x.Text == "" {
						x.At = s.at
					}
					x.Text += string(rune(s.c))
				}
			}
			if x.Text == "" {
				continue
			}
			if n := len(l) - 1; n >= 0 && l[n].Kind == '.' && in[n] == here {
				l[n].Text += x.Text
				continue
			}
		}
		l, was, in = append(l, x), append(was, i), append(in, here)
	}
	for i, place := range was {
		end := place + t[place].Size
		l[i].Size = 0
		for _, other := range was {
			if other >= place && other < end {
				l[i].Size++
			}
		}
	}
	return l
}
