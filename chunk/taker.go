package chunk

import (
	"slices"
	"strings"

	"stylus/api"
	"stylus/chars"
	"stylus/trie"
)

// taker takes rules of a table for a chunk's tokens, as pieces.
type taker struct {
	*trie.Trie
	rules  []api.Rule // asked once, since each time they are copied
	toks   []api.Tok
	pieces []api.Piece
}

// begin is a taker that has taken nothing, or the error.
func begin(t *trie.Trie, l []api.Tok) (*taker, api.Errno) {
	rules := t.Rules()
	if len(rules) == 0 { // nobody's tables alone have none
		return nil, api.ErrArg
	}
	return &taker{Trie: t, rules: rules, toks: l}, Check(l)
}

// put puts a rule's piece.
func (k *taker) put(rule, from, size int) {
	k.pieces = append(k.pieces, api.Piece{Rule: rule, From: from, Len: size})
}

// take puts the piece of the rule of that What and Left, which is one that each
// accepted table has.
func (k *taker) take(what int, left string, from, size int) {
	rule, _ := k.Find(what, left)
	k.put(rule, from, size)
}

// tell puts a sign that takes no token, ahead of the one that it is about.
func (k *taker) tell(name string, at int) { k.take(api.RuleSign, name, at, 0) }

// tellCase puts what tells how the letters from a token on are cased, which
// small ones need not have.
func (k *taker) tellCase(letters string, at int) {
	switch chars.Case(letters) {
	case api.CaseFirst:
		k.tell("cap", at)
	case api.CaseAll:
		k.tell("caps", at)
	}
}

// takeWord takes the chunk as a word, if it is one, and tells whether it is.
func (k *taker) takeWord() bool {
	text := letters(k.toks)
	rule, ok := k.Find(api.RuleWord, chars.Low(text))
	if !ok || len(text) < len(k.toks) || chars.Case(text) == api.CaseMixed {
		return false
	}
	k.tellCase(text, 0)
	k.put(rule, 0, len(text))
	return true
}

// letters is those with which some tokens begin.
func letters(l []api.Tok) string {
	size := slices.IndexFunc(l, func(x api.Tok) bool { return x.Kind != api.TokChar || !chars.Letter(x.Ch) })
	if size < 0 {
		size = len(l)
	}
	text := make([]byte, size)
	for i := range text {
		text[i] = l[i].Ch
	}
	return string(text)
}

// spell takes the chunk token by token, and run by run.
func (k *taker) spell() {
	for at := 0; at < len(k.toks); {
		if text := letters(k.toks[at:]); text != "" {
			k.run(text, at)
			at += len(text)
			continue
		}
		k.single(at)
		at++
	}
}

// single takes a token that is no letter.
func (k *taker) single(at int) {
	x := k.toks[at]
	name := string([]byte{x.Ch})
	switch {
	case x.Kind == api.TokOpen:
		k.take(api.RuleSign, name+"+", at, 1)
	case x.Kind == api.TokClose:
		k.take(api.RuleSign, name+"-", at, 1)
	case chars.Class(x.Ch) == api.ClassMark:
		k.take(api.RuleMark, name, at, 1)
	default:
		if !k.behindDigit(at) {
			k.tell("num", at)
		}
		k.take(api.RuleDigit, name, at, 1)
	}
}

// behindDigit tells whether the token ahead of one is a digit. Its byte alone
// is looked at, since openings and closings have letters.
func (k *taker) behindDigit(at int) bool {
	return at > 0 && chars.Class(k.toks[at-1].Ch) == api.ClassDigit
}

// guard puts let ahead of what is spelled, if it would be read as a word.
func (k *taker) guard() {
	if _, ok := k.Word(k.uncased()); ok {
		let, _ := k.Find(api.RuleSign, "let")
		k.pieces = slices.Insert(k.pieces, 0, api.Piece{Rule: let})
	}
}

// uncased is the cells of what is taken, but for those of cap, or of caps, with
// which they begin.
func (k *taker) uncased() string {
	all := cells(k.rules, k.pieces)
	for _, name := range [2]string{"cap", "caps"} {
		if rest, ok := strings.CutPrefix(all, k.Sign(name)); ok {
			return rest
		}
	}
	return all
}
