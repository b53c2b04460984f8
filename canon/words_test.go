package canon_test

import "stylus/api"

// names has the document's names, so that no test leans on the program's own.
var names = map[byte]string{
	'1': "h1", '2': "h2", '3': "h3", 'p': "p", 'l': "l", 'i': "i", 't': "t", 'r': "r", 'c': "c", 'n': "n", 'e': "e", 's': "s", 'k': "k",
}

// textsOf says the document's words on the text of each of some nodes side by side, in order.
func textsOf(t []api.Node) []string {
	if len(t) == 0 {
		return nil
	}
	x := t[0]
	text := x.Text
	if x.Kind != '.' {
		text = "{" + names[x.Kind] + " "
		for _, s := range textsOf(t[1:x.Size]) {
			text += s
		}
		text += "}"
	}
	return append([]string{text}, textsOf(t[x.Size:])...)
}

// blocksOf is a normalised tree's canonical text, however long it is.
func blocksOf(t []api.Node) string {
	s := ""
	for _, x := range textsOf(t) {
		s += x + "\n"
	}
	return s
}
