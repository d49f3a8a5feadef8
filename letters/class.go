package letters

import (
	"strings"
	"unicode/utf8"
)

const (
	small   = 1
	capital = 2
	digit   = 3
	space   = 4
	mark    = 5
	other   = 6
)

// caseGap is the distance from a capital to its small letter, in ASCII and in Latin-1.
const caseGap = 32

// span is a range of code points, both ends included, that have the same class.
type span struct {
	first, last rune
	class       int
}

// spans is gone through from its beginning, so the marks, which lie around
// letters and digits, come behind them.
var spans = [...]span{
	{'a', 'z', small},
	{0xB5, 0xB5, small},
	{0xDF, 0xF6, small},
	{0xF8, 0xFF, small},
	{'A', 'Z', capital},
	{0xC0, 0xD6, capital},
	{0xD8, 0xDE, capital},
	{'0', '9', digit},
	{0x09, 0x0D, space},
	{0x20, 0x20, space},
	{0xA0, 0xA0, space},
	{0x21, 0x7E, mark},
}

// Class returns the class of a letter.
func Class(letter string) (class int) {
	if !Valid(letter) {
		return 0
	}
	r, _ := utf8.DecodeRuneInString(letter)
	return classOf(r)
}

func classOf(r rune) int {
	for _, s := range spans {
		if s.first <= r && r <= s.last {
			return s.class
		}
	}
	return other
}

// Lower changes the capitals of ASCII and Latin-1 to small letters.
func Lower(text string) (s string) {
	return change(text, func(r rune) rune {
		if classOf(r) == capital {
			return r + caseGap
		}
		return r
	})
}

// Upper changes the small letters of ASCII and Latin-1 to capitals.
func Upper(text string) (s string) {
	return change(text, func(r rune) rune {
		// Being small is not enough: in front of U+00B5, U+00DF and U+00FF no
		// capital lies at this distance.
		if classOf(r-caseGap) == capital {
			return r - caseGap
		}
		return r
	})
}

// change changes the letters of a string, and leaves its stray bytes as they are.
func change(text string, to func(r rune) rune) string {
	var b strings.Builder
	for at, r := range text {
		if isStray(text, at, r) {
			b.WriteByte(text[at])
		} else {
			b.WriteRune(to(r))
		}
	}
	return b.String()
}
