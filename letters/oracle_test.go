package letters_test

import "strings"

// firstPiece divides the first piece from a string, by the chapter's table of
// forms alone; a stray byte has the code point -1.
func firstPiece(s string) (piece string, point int) {
	size, point, least := 1, int(s[0]), 0
	switch {
	case s[0] < 0x80:
		return s[:1], point
	case s[0] >= 0xC0 && s[0] < 0xE0:
		size, point, least = 2, int(s[0]-0xC0), 0x80
	case s[0] >= 0xE0 && s[0] < 0xF0:
		size, point, least = 3, int(s[0]-0xE0), 0x800
	case s[0] >= 0xF0 && s[0] < 0xF8:
		size, point, least = 4, int(s[0]-0xF0), 0x10000
	default:
		return s[:1], -1
	}
	if len(s) < size {
		return s[:1], -1
	}
	for i := 1; i < size; i++ {
		if s[i] < 0x80 || s[i] >= 0xC0 {
			return s[:1], -1
		}
		point = point*64 + int(s[i]-0x80)
	}
	if point < least || point > 0x10FFFF || 0xD800 <= point && point <= 0xDFFF {
		return s[:1], -1
	}
	return s[:size], point
}

// pieces divides a string into its pieces; at is the offset of the first
// stray byte, or -1.
func pieces(s string) (l []string, at int) {
	at = -1
	for i := 0; i < len(s); {
		p, point := firstPiece(s[i:])
		if point < 0 && at < 0 {
			at = i
		}
		l = append(l, p)
		i += len(p)
	}
	return l, at
}

// form writes a code point as UTF-8, or returns "" for one that has no letter.
func form(c int) string {
	switch {
	case c < 0x80:
		return string([]byte{byte(c)})
	case c < 0x800:
		return string([]byte{byte(0xC0 + c/64), byte(0x80 + c%64)})
	case 0xD800 <= c && c <= 0xDFFF:
		return ""
	case c < 0x10000:
		return string([]byte{byte(0xE0 + c/4096), byte(0x80 + c/64%64), byte(0x80 + c%64)})
	}
	return string([]byte{byte(0xF0 + c/262144), byte(0x80 + c/4096%64), byte(0x80 + c/64%64), byte(0x80 + c%64)})
}

// eachLetter visits the letters of all code points.
func eachLetter(visit func(c int, letter string)) {
	for c := range 0x110000 {
		if s := form(c); s != "" {
			visit(c, s)
		}
	}
}

// eachString visits all strings of at most most of the parts.
func eachString(parts []string, most int, visit func(s string)) {
	visit("")
	if most > 0 {
		for _, p := range parts {
			eachString(parts, most-1, func(s string) {
				visit(p + s)
			})
		}
	}
}

func singleBytes() []string {
	var l []string
	for c := range 256 {
		l = append(l, string([]byte{byte(c)}))
	}
	return l
}

// tellingBytes are bytes at the edges of all forms, by which letters and
// strings that almost are letters can be put together.
func tellingBytes() []string {
	return strings.Split("\x00,\x7f,\x80,\x8f,\x90,\x9f,\xa0,\xbf,\xc0,\xc1,\xc2,\xdf,\xe0,\xe1,\xed,\xee,\xef,\xf0,\xf1,\xf4,\xf5,\xf8,\xff,a", ",")
}

// samples are strings with letters of all sizes and classes, and stray bytes.
func samples() []string {
	var l []string
	eachString([]string{"a", "Z", "5", " ", "%", "x", "0", "\n", "\x7f", "\u00b5", "\u00c9", "\u00ff", "\u00a0", "\ufffd", "\U0001f600", "\x80", "\xc3", "\xa9", "\xff"}, 3, func(s string) {
		l = append(l, s)
	})
	return l
}
