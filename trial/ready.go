package trial

import (
	"strconv"

	"stylus/api"
	"stylus/trie"
)

// Ready makes a table ready, which must be accepted, for a test that wants
// another one than it says would show nothing.
func Ready(l []api.Rule) *trie.Trie {
	t, line, e := trie.New(l)
	if t == nil || line != 0 || e != api.OK {
		panic("trial: no table that is accepted: " + strconv.Itoa(line))
	}
	return t
}

// Nobodys is tables that are nobody's: ones that are nil, and ones that New did
// not make.
func Nobodys() []*trie.Trie {
	var none *trie.Trie
	var empty trie.Trie
	refused, _, _ := trie.New(Table()[1:])
	return []*trie.Trie{none, &empty, new(trie.Trie), {}, refused}
}
