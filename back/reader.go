package back

import (
	"strings"

	"stylus/api"
	"stylus/chars"
	"stylus/trie"
)

// How the letters that come next are taken.
const (
	asSmall    = iota
	asCapital  // the first one alone
	asCapitals // all of them
)

// reader reads cells by a table, as tokens.
type reader struct {
	*trie.Trie
	rules []api.Rule // asked once, since each time they are copied
	toks  []api.Tok
	row   int // that holds
	how   int // the letters that come next are taken
}

// begin is a reader that has read nothing, or the error of nobody's table.
func begin(t *trie.Trie) (*reader, api.Errno) {
	rules := t.Rules()
	if len(rules) == 0 { // nobody's tables alone have none
		return nil, api.ErrArg
	}
	return &reader{Trie: t, rules: rules}, api.OK
}

// answer is what was read, if all was; else the error, with the place at which
// no more was.
func (r *reader) answer(at int, ok bool) ([]api.Tok, int, api.Errno) {
	if !ok {
		return nil, at, api.ErrForm
	}
	return r.toks, 0, api.OK
}

// text reads a text's cells; false, with the place of the first one that can't
// be read, if there is one.
func (r *reader) text(cells string) (at int, ok bool) {
	for at < len(cells) {
		if cells[at] == api.Blank {
			r.put(api.TokChar, ' ')
			at++
			continue
		}
		to := chunkEnd(cells, at)
		if wrong, ok := r.chunk(cells[at:to]); !ok {
			return at + wrong, false
		}
		at = to
	}
	return 0, true
}

// chunkEnd is the place of the first blank of a text's cells from a place on,
// or their end.
func chunkEnd(cells string, from int) int {
	if size := strings.IndexByte(cells[from:], api.Blank); size >= 0 {
		return from + size
	}
	return len(cells)
}

// chunk reads a chunk's cells, likewise.
func (r *reader) chunk(cells string) (at int, ok bool) {
	if r.word(cells) {
		return 0, true
	}
	r.turn(api.RowBegin)
	for at < len(cells) {
		rule, ok := r.Match(cells, at, r.row)
		if !ok || !r.take(r.rules[rule]) {
			return at, false
		}
		at += len(r.rules[rule].Cells)
	}
	return 0, true
}

// word reads a chunk's cells that are a word's, and tells whether they are. As
// no sign's cells begin a word's, they are in one way at most.
func (r *reader) word(cells string) bool {
	ahead := [...]string{asSmall: "", asCapital: r.Sign("cap"), asCapitals: r.Sign("caps")}
	for how, sign := range ahead {
		rest, begins := strings.CutPrefix(cells, sign)
		if rule, ok := r.Word(rest); ok && begins {
			r.how = how
			r.letters(r.rules[rule].Left)
			return true
		}
	}
	return false
}

// take takes the rule that stands next; false, if that can't be read.
func (r *reader) take(x api.Rule) bool {
	switch x.What {
	case api.RuleSign:
		return r.sign(x.Left)
	case api.RuleMark:
		r.put(api.TokChar, x.Left[0])
		r.turn(api.RowBegin)
	case api.RuleDigit:
		r.put(api.TokChar, x.Left[0])
	default:
		r.letters(x.Left)
		r.row = api.RowInner
	}
	return true
}

// sign takes a sign by its name, likewise.
func (r *reader) sign(name string) bool {
	switch name {
	case "cap":
		r.tell(asCapital)
	case "caps":
		r.tell(asCapitals)
	case "num":
		r.turn(api.RowNumber)
	case "let":
		r.turn(api.RowBegin)
	case "blk", "cont", "ind":
		return false
	default:
		r.put(kindOf(name), name[0])
		r.turn(api.RowBegin)
	}
	return true
}

// kindOf is the kind of the token that a sign of a letter with + or - tells.
func kindOf(name string) int {
	if name[1] == '+' {
		return api.TokOpen
	}
	return api.TokClose
}

// turn has a row hold, and puts an end to cap and to caps.
func (r *reader) turn(row int) { r.row, r.how = row, asSmall }

// tell has the next letters taken in a way. The row stays as it is, but for that
// of numbers, as letters are told.
func (r *reader) tell(how int) {
	r.how = how
	if r.row == api.RowNumber {
		r.row = api.RowBegin
	}
}

// letters puts some, cased as it was told.
func (r *reader) letters(left string) {
	for i := range len(left) {
		c := left[i]
		if r.how != asSmall {
			c = chars.Upper(c)
		}
		if r.how == asCapital {
			r.how = asSmall
		}
		r.put(api.TokChar, c)
	}
}

// put puts a token, which comes from nowhere in a source.
func (r *reader) put(kind int, c byte) {
	r.toks = append(r.toks, api.Tok{Kind: kind, Ch: c})
}
