package trial

import (
	"strconv"
	"strings"

	"stylus/api"
	"stylus/lex"
)

// Kinds is all kinds of nodes but a text's.
const Kinds = "123plitrcnesk"

// Rich is a source that has each kind, and each kind of white that is nothing.
const Rich = "{h1 A{n x{s y}}b}\n{h2}{h3\n\n}{p a b{e c{s d{n e}}}f} {k\n}{l \n{i a {l{i b{n z}} \n{i}}{l{i c{s d}}} }\n{i}} {t{r{c a}{c b{e x}}}\n{r {c}{c d}} }{p{s{e !}}{e?}}\n"

// White is a source that has each kind, and white at each place of each flow.
const White = "{h1 \n A  b \n{n  x{s \n y \n}\n} {e \n}b \n}{h2}{h3\n\n \n}{p  a \n b{e  c{s  d{n \n e \n} }\n}  f \n} {k\n}" +
	"{l \n{i \n a  {l{i  b {n  z \n}\n} \n{i\n \n}}{l{i c{s  d \n} }} }\n{i}}{t{r{c  a  b\n}{c \n{e \n x \n} }}{r{c \n}{c  d}}}{p{s {e  ! }} {e \n?}}{p \n{n \n}\n}"

// Nodes tells a row's nodes, each by its kind, size and text.
func Nodes(t []api.Node) string {
	var parts []string
	for _, x := range t {
		parts = append(parts, string([]byte{x.Kind})+strconv.Itoa(x.Size)+x.Text)
	}
	return strings.Join(parts, " ")
}

// Every is a node of each of some kinds, of each size up to one, with that text.
func Every(kinds, text string, most int) []api.Node {
	var l []api.Node
	for i := range len(kinds) {
		for size := range most + 1 {
			l = append(l, api.Node{Kind: kinds[i], Text: text, Size: size})
		}
	}
	return l
}

// Written is a source of bytes that stand for its pieces: a kind for its
// opening, a . for a text, any other one for itself.
func Written(pieces string) string {
	s := ""
	for i := range len(pieces) {
		switch c := pieces[i]; {
		case strings.IndexByte(Kinds, c) >= 0:
			s += "{" + lex.Name(c)
		case c == '.':
			s += "a"
		default:
			s += pieces[i : i+1]
		}
	}
	return s
}

// Ends closes what a source leaves open.
func Ends(s string) string {
	return strings.Repeat("}", max(0, strings.Count(s, "{")-strings.Count(s, "}")))
}
