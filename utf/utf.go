// Package utf is layer 1: it reads and writes runes as UTF-8.
package utf

import (
	"strings"
	"unicode/utf8"

	"bodkin/api"
)

// Step is the rune at a place, and its bytes: api.Bad and 1 where no right encoding begins, 0 and 0 outside of the text.
func Step(s string, at int) (rune, int) {
	if at < 0 || at >= len(s) {
		return 0, 0
	}
	return utf8.DecodeRuneInString(s[at:])
}

// Decode are a text's runes.
func Decode(s string) []rune {
	l := make([]rune, 0, Count(s))
	for _, r := range s {
		l = append(l, r)
	}
	return l
}

// Count is how many there are.
func Count(s string) int {
	n := 0
	for range s {
		n++
	}
	return n
}

// Size is how many bytes a rune has.
func Size(r rune) int {
	if n := utf8.RuneLen(r); n > 0 {
		return n
	}
	return utf8.RuneLen(api.Bad)
}

// Encode is runes' text.
func Encode(l []rune) string {
	var b strings.Builder
	b.Grow(len(l))
	for _, r := range l {
		b.WriteRune(r) // of a rune without an encoding it writes api.Bad's
	}
	return b.String()
}

// Good tells whether a text is right.
func Good(s string) bool {
	// A decoded api.Bad alone would not tell: it may stand in the text itself.
	return utf8.ValidString(s)
}

// Clean makes it right.
func Clean(s string) string { return Encode(Decode(s)) }
