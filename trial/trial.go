// Package trial has what the tests of several layers share; no layer calls it.
package trial

import "iter"

// Texts goes over all texts of at most that many bytes of an alphabet, the
// shorter ones first.
func Texts(alphabet string, most int) iter.Seq[string] {
	return func(yield func(string) bool) {
		texts := []string{""}
		for size := 0; ; size++ {
			for _, s := range texts {
				if !yield(s) {
					return
				}
			}
			if size >= most {
				return
			}
			texts = longer(texts, alphabet)
		}
	}
}

// longer is each text with each byte of the alphabet behind it.
func longer(texts []string, alphabet string) []string {
	var out []string
	for _, s := range texts {
		for i := range len(alphabet) {
			out = append(out, s+alphabet[i:i+1])
		}
	}
	return out
}

// Rows goes over all rows of at most that many entries, each one of those
// given, which are 256 at most; the shorter rows first.
func Rows[T any](of []T, most int) iter.Seq[[]T] {
	places := make([]byte, len(of))
	for i := range places {
		places[i] = byte(i)
	}
	return func(yield func([]T) bool) {
		for s := range Texts(string(places), most) {
			l := make([]T, len(s))
			for i := range len(s) {
				l[i] = of[s[i]]
			}
			if !yield(l) {
				return
			}
		}
	}
}

// Shown is as much of a text as a failure should print.
func Shown(s string) string {
	return s[:min(len(s), 40)]
}
