package flat_test

import (
	"strings"

	"stylus/api"
	"stylus/tree"
	"stylus/trial"
)

// tokensOf says the document's words on a tree's tokens, node by node.
func tokensOf(t []api.Node) []api.Tok {
	var l []api.Tok
	for len(t) > 0 {
		x := t[0]
		if x.Kind == '.' {
			for i := range len(x.Text) {
				l = append(l, api.Tok{Kind: 1, Ch: x.Text[i], At: x.At + i})
			}
		} else {
			l = append(l, api.Tok{Kind: 2, Ch: x.Kind, At: x.At})
			l = append(l, tokensOf(t[1:x.Size])...)
			l = append(l, api.Tok{Kind: 3, Ch: x.Kind, At: l[len(l)-1].At})
		}
		t = t[x.Size:]
	}
	return l
}

// closing is the place of the closing with which an opening is paired, whatever their kinds; -1, if there is none.
func closing(l []api.Tok, opening int) int {
	open := 0
	for i := opening; i < len(l); i++ {
		switch l[i].Kind {
		case 2:
			open++
		case 3:
			open--
		}
		if open == 0 {
			return i
		}
	}
	return -1
}

// nodes is the nodes that some tokens tell, whether or not they may be; false, if they are not paired.
func nodes(l []api.Tok) ([]api.Node, bool) {
	var t []api.Node
	for i := 0; i < len(l); i++ {
		switch n := len(t) - 1; l[i].Kind {
		case 1:
			if i > 0 && l[i-1].Kind == 1 {
				t[n].Text += string([]byte{l[i].Ch})
				continue
			}
			t = append(t, api.Node{Kind: '.', Text: string([]byte{l[i].Ch}), At: l[i].At, Size: 1})
		case 2:
			end := closing(l, i)
			if end < 0 || l[end].Ch != l[i].Ch {
				return nil, false
			}
			in, ok := nodes(l[i+1 : end])
			if !ok {
				return nil, false
			}
			t = append(t, api.Node{Kind: l[i].Ch, At: l[i].At, Size: 1 + len(in)})
			t = append(t, in...)
			i = end
		default:
			return nil, false
		}
	}
	return t, true
}

// treeOf says the document's words on Tree: what no normalised tree has is ErrForm, however deep and large it is.
func treeOf(l []api.Tok) ([]api.Node, api.Errno) {
	t, ok := nodes(l)
	if !ok {
		return nil, api.ErrForm
	}
	e := tree.Check(t)
	if e == api.ErrForm {
		return nil, e
	}
	for _, s := range trial.FlowTexts(t) {
		if s != strings.Join(strings.Fields(s), " ") {
			return nil, api.ErrForm
		}
	}
	if e != api.OK {
		return nil, e
	}
	return t, api.OK
}

// same says the document's words on Same.
func same(a, b []api.Tok) bool {
	if len(a) != len(b) {
		return false
	}
	for i := range a {
		if a[i].Kind != b[i].Kind || a[i].Ch != b[i].Ch {
			return false
		}
	}
	return true
}
