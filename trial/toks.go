package trial

import (
	"iter"
	"strings"

	"stylus/api"
)

// The bytes by which tokens are told: an opening and a closing have theirs
// ahead of the kind's letter, what is none has the third one.
const (
	opens  = '<'
	closes = '>'
	alien  = '?'
)

// Toks is tokens by a text: <p opens a p, >p closes one, any other byte is a
// character. Each comes from its place in the text.
func Toks(s string) []api.Tok {
	var l []api.Tok
	for i := 0; i < len(s); i++ {
		x := api.Tok{Kind: api.TokChar, Ch: s[i], At: i}
		switch {
		case i+1 == len(s):
		case s[i] == opens:
			i++
			x.Kind, x.Ch = api.TokOpen, s[i]
		case s[i] == closes:
			i++
			x.Kind, x.Ch = api.TokClose, s[i]
		}
		l = append(l, x)
	}
	return l
}

// Told is the text of some tokens, likewise.
func Told(l []api.Tok) string {
	var s []byte
	for _, x := range l {
		switch x.Kind {
		case api.TokChar:
		case api.TokOpen:
			s = append(s, opens)
		case api.TokClose:
			s = append(s, closes)
		default:
			s = append(s, alien)
		}
		s = append(s, x.Ch)
	}
	return string(s)
}

// textPieces is tokens as texts, of each sort some, and rows of letters that one
// rule may be about.
var textPieces = [10]string{"con", "THE", "And", "it", "X", "1", "<e", "but", " ", "can"}

// TextToks goes over the tokens of all short texts of a few sorts of tokens each,
// and of pieces side by side. Some come more than once.
func TextToks() iter.Seq[[]api.Tok] {
	return func(yield func([]api.Tok) bool) {
		for _, x := range []struct {
			toks string
			most int
		}{{"ab B", 5}, {"a1 .<e>e", 4}, {"bB 1<e", 4}, {"d D", 5}, {"st S", 4}, {"12 ,", 4}, {" <s>s<n>n", 4}} {
			for l := range Rows(Toks(x.toks), x.most) {
				if !yield(l) {
					return
				}
			}
		}
		for l := range Rows(textPieces[:], 3) {
			if !yield(Toks(strings.Join(l, ""))) {
				return
			}
		}
	}
}
