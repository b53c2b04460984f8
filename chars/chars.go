// Package chars is layer 1: of which class bytes are, and how letters are cased
// (shared/doc/01-chars.md).
package chars

import (
	"iter"

	"stylus/api"
)

// marks stands in the order in which Marks tells them.
const marks = ".,;:!?'\"-()/"

// caseBit is the one bit by which a capital and its small letter differ.
const caseBit = 1 << 5

// classes has a word for every 16 bytes, and in it four bits for each one's
// class, the first byte's lowest: so a word's hex digits are classes, read
// from the right. No byte from 128 on has a class, hence the words left out.
var classes = [16]uint64{
	0x0000060000000000, // LF
	0x0000000000000000,
	0x4444004440000445, // the space, and marks
	0x4000443333333333, // 0 to 9, and marks
	0x2222222222222220, // A to O
	0x0000022222222222, // P to Z
	0x1111111111111110, // a to o
	0x0000011111111111, // p to z
}

// Class is the byte's class, one of api's numbers.
func Class(c byte) int {
	shift := (c & 15) << 2
	return int(classes[c>>4] >> shift & 15)
}

// Is tells whether a byte is of the repertoire.
func Is(c byte) bool {
	class := Class(c)
	return class != api.ClassNone && class != api.ClassLine
}

// White tells whether a byte is a space or LF.
func White(c byte) bool {
	class := Class(c)
	return class == api.ClassSpace || class == api.ClassLine
}

// Letter tells whether a byte is a letter, of either case.
func Letter(c byte) bool {
	class := Class(c)
	return class == api.ClassLower || class == api.ClassUpper
}

// Lower is a letter's small one; any other byte stays as it is.
func Lower(c byte) byte {
	if Class(c) == api.ClassUpper {
		return c | caseBit
	}
	return c
}

// Upper is a letter's capital; any other byte stays as it is.
func Upper(c byte) byte {
	if Class(c) == api.ClassLower {
		return c &^ caseBit
	}
	return c
}

// Low is the text with small letters for its capitals. It goes byte by byte,
// since bytes outside the repertoire need not be UTF-8, and stay all the same.
func Low(s string) string {
	low := []byte(s)
	for i, c := range low {
		low[i] = Lower(c)
	}
	return string(low)
}

// Case is how a text is cased, one of api's numbers.
func Case(s string) int {
	capitals := 0
	for _, run := range Runs(s) {
		switch Class(run[0]) {
		case api.ClassUpper:
			capitals += len(run)
		case api.ClassLower:
		default:
			return api.CaseNone
		}
	}
	return caseOf(s, capitals)
}

// caseOf is how a text of letters alone is cased, so many of them capitals.
func caseOf(s string, capitals int) int {
	switch {
	case s == "":
		return api.CaseNone
	case capitals == 0:
		return api.CaseLower
	case capitals == 1 && Class(s[0]) == api.ClassUpper: // ahead of CaseAll: a capital alone is CaseFirst
		return api.CaseFirst
	case capitals == len(s):
		return api.CaseAll
	}
	return api.CaseMixed
}

// Marks is all marks, in the document's order.
func Marks() string { return marks }

// Runs goes over a text's runs, each with the place of its first byte.
func Runs(s string) iter.Seq2[int, string] {
	return func(yield func(int, string) bool) {
		for from := 0; from < len(s); {
			to := runEnd(s, from)
			if !yield(from, s[from:to]) {
				return
			}
			from = to
		}
	}
}

// runEnd is the place behind the run that begins at from.
func runEnd(s string, from int) int {
	class := Class(s[from])
	to := from + 1
	for to < len(s) && Class(s[to]) == class {
		to++
	}
	return to
}
