// Package letters is layer 1: it divides texts into letters, tells their
// classes, changes their case, and quotes names. See shared/doc/01-letters.md.
package letters

import (
	"strings"
	"unicode/utf8"

	"abugida/api"
)

// Split returns the letters of a UTF-8 text, or the offset of the first byte that is not part of one.
func Split(text string) (l []string, at int, e api.Errno) {
	if len(text) > api.MaxText {
		return nil, 0, api.ErrLong
	}
	for i, r := range text {
		if isStray(text, i, r) {
			return nil, i, api.ErrForm
		}
		l = append(l, string(r))
	}
	return l, 0, api.OK
}

// isStray tells a stray byte from the letter U+FFFD: a range over a string
// gives the code point U+FFFD for both.
func isStray(text string, at int, r rune) bool {
	return r == utf8.RuneError && !strings.HasPrefix(text[at:], string(utf8.RuneError))
}

// Valid reports whether a string is one letter.
func Valid(letter string) (ok bool) {
	return utf8.ValidString(letter) && utf8.RuneCountInString(letter) == 1
}

// Join returns the text of letters.
func Join(l []string) (text string, e api.Errno) {
	size := 0
	for _, letter := range l {
		if !Valid(letter) {
			return "", api.ErrArg
		}
		size += len(letter)
	}
	if size > api.MaxText {
		return "", api.ErrLong
	}
	var b strings.Builder
	for _, letter := range l {
		b.WriteString(letter)
	}
	return b.String(), api.OK
}

// Compare compares two texts byte by byte, which is the order of their code points.
func Compare(a, b string) (c int) {
	return strings.Compare(a, b)
}
