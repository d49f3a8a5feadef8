package letters_test

import (
	"strconv"
	"strings"
	"testing"

	"abugida/api"
	"abugida/letters"
)

// hex writes a byte as two digits.
func hex(c byte) string {
	return strconv.FormatInt(int64(c)+256, 16)[1:]
}

// wantQuote quotes a name by the chapter's definition.
func wantQuote(name string) string {
	if name == "" {
		return "%0"
	}
	text := ""
	for len(name) > 0 {
		p, c := firstPiece(name)
		switch {
		case c < 0x20 || c == 0x7F:
			text += "%x" + hex(p[0])
		case wantClass(c) == 4 || wantClass(c) == 5:
			text += "%" + p
		default:
			text += p
		}
		name = name[len(p):]
	}
	return text
}

// P1.5: the examples, and pieces of each kind beside each other.
func TestQuote(t *testing.T) {
	for name, want := range map[string]string{
		"":                       "%0",
		"a-b\n5%":                "a%-b%x0a5%%",
		"a b":                    "a% b",
		"\xc8":                   "%xc8",
		"0":                      "0",
		"%0":                     "%%0",
		"%x0a":                   "%%x0a",
		"\x00\t\x1f\x7f":         "%x00%x09%x1f%x7f",
		"\u0080\u009f\u00a0":     "\u0080\u009f%\u00a0",
		"\u00e9\u00d7\u20ac":     "\u00e9\u00d7\u20ac",
		"\ufffd":                 "\ufffd",
		"\xef\xbf":               "%xef%xbf",
		"\xc3\xa9\xa9\xc3":       "\u00e9%xa9%xc3",
		"\xed\xa0\x80":           "%xed%xa0%x80",
		"!\"#$&'()*+,-./:;<=>?@": "%!%\"%#%$%&%'%(%)%*%+%,%-%.%/%:%;%<%=%>%?%@",
		"[\\]^_`{|}~":            "%[%\\%]%^%_%`%{%|%}%~",
	} {
		if text := letters.Quote(name); text != want {
			t.Errorf("Quote(%q) = %q", name, text)
		}
	}
	long := strings.Repeat("a-\n", 20000)
	if letters.Quote(long) != strings.Repeat("a%-%x0a", 20000) {
		t.Error("Quote of a long name")
	}
}

// checkQuote compares Quote with its definition, and with Unquote (P1.8).
func checkQuote(t *testing.T, name string) {
	text := letters.Quote(name)
	if text != wantQuote(name) {
		t.Fatalf("Quote(%q) = %q", name, text)
	}
	if back, e := letters.Unquote(text); back != name || e != api.OK {
		t.Fatalf("Unquote(%q): %q, %v", text, back, e)
	}
}

// P1.5, P1.6, P1.8: all letters, all strings of two bytes, and longer ones.
func TestQuoteAll(t *testing.T) {
	eachLetter(func(c int, letter string) { checkQuote(t, letter) })
	eachString(singleBytes(), 2, func(s string) { checkQuote(t, s) })
	for _, s := range samples() {
		checkQuote(t, s)
	}
}

// P1.6: the examples, and texts that Quote never writes.
func TestUnquote(t *testing.T) {
	for text, name := range map[string]string{"%0": "", "%x0a": "\n", "%%": "%", "%%0": "%0", "%%x41": "%x41", "a%-b%x0a5%%": "a-b\n5%", "%xc3%xc3a": "\xc3\xc3a", "\u00e9%xa9": "\u00e9\xa9", "%\u00a0": "\u00a0", "x0": "x0"} {
		if s, e := letters.Unquote(text); s != name || e != api.OK {
			t.Errorf("Unquote(%q): %q, %v", text, s, e)
		}
	}
	for _, text := range []string{
		"", "%", "a%", "%%%", "%a", "%\u00e9", "%5", "-", " ", "a b", "\u00a0", "\n", "\x7f", "%\n", "%\x00",
		"%x", "%x0", "%x0g", "%x0A", "%xC8", "%X0a", "%x41", "%x20", "%x2d", "%x+1", "%x 1", "%xa", "a%x7",
		"x%0", "%0x", "%0%0", "%00", "\xff", "%\xff", "a\xc3", "%xc3%xa9", "%xe2%x82%xac", "%xef%xbf%xbd", "\xc3%xa9", "%xc3\xa9", "%\xc2\xa0\xa0",
	} {
		if s, e := letters.Unquote(text); s != "" || e != api.ErrForm {
			t.Errorf("Unquote(%q): %q, %v", text, s, e)
		}
	}
	long := strings.Repeat("a%-%x0a", 20000)
	if s, e := letters.Unquote(long); s != strings.Repeat("a-\n", 20000) || e != api.OK {
		t.Errorf("a long text: %d bytes, %v", len(s), e)
	}
}

// P1.6: among all short texts, those that are the Quote of a name, and no others.
func TestUnquoteAll(t *testing.T) {
	marks := []string{"%", "x", "0", "a", "c", "9", "-", "\n", "\xc3", "\xa9"}
	names := append([]string{"\x00", "\t", "\x0a", "\x0c", "\x90", "\x99", "\x9a", "\x9c", "\xa0", "\xaa", "\xac", "\xc0", "\xc9", "\xca", "\xcc"}, marks...)
	want := map[string]string{}
	eachString(names, 4, func(name string) { want[wantQuote(name)] = name })
	eachString(marks, 5, func(text string) {
		name, quoted := want[text]
		if len(text) == 5 && !quoted {
			return // a name of five bytes is not in the map
		}
		s, e := letters.Unquote(text)
		if quoted && (s != name || e != api.OK) || !quoted && (s != "" || e != api.ErrForm) {
			t.Fatalf("Unquote(%q): %q, %v", text, s, e)
		}
	})
}

// unit returns the length of the unit with which a text begins, or 0.
func unit(text string) int {
	if text == "" {
		return 0
	}
	p, c := firstPiece(text)
	if p != "%" {
		if plain := c >= 0x20 && c != 0x7F && wantClass(c) != 4 && wantClass(c) != 5; plain {
			return len(p)
		}
		return 0
	}
	if len(text) >= 4 && text[1] == 'x' && strings.Contains("0123456789abcdef", text[2:3]) && strings.Contains("0123456789abcdef", text[3:4]) {
		return 4
	}
	if len(text) == 1 {
		return 0
	}
	p, c = firstPiece(text[1:])
	if c >= 0x20 && c != 0x7F && (wantClass(c) == 4 || wantClass(c) == 5) {
		return 1 + len(p)
	}
	return 0
}

// P1.9: a quoted text consists of units, and its end is seen in front of a space or a mark.
func TestUnits(t *testing.T) {
	ends := []string{"", " ", "\t", "\u00a0", "-", ":", "<", "~"}
	check := func(name string) {
		text := letters.Quote(name)
		for _, end := range ends {
			rest := text + end
			if name == "" {
				rest = strings.TrimPrefix(rest, "%0")
			}
			for n := unit(rest); n > 0; n = unit(rest) {
				rest = rest[n:]
			}
			if rest != end {
				t.Fatalf("Quote(%q) in front of %q: %q is left", name, end, rest)
			}
		}
	}
	for _, s := range samples() {
		check(s)
	}
	eachString(singleBytes(), 2, check)
	if letters.Quote("") != "%0" {
		t.Error("the empty name")
	}
}
