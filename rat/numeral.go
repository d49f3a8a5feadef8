package rat

import "strings"

// numeral takes a numeral apart: its sign and its fraction, which need not be
// in lowest terms.
func numeral(text string) (negative bool, num, den string, ok bool) {
	rest, negative := strings.CutPrefix(text, "-")
	at := strings.IndexAny(rest, "/.")
	if at < 0 {
		return negative, natural(rest), "1", areDigits(rest)
	}
	whole, tail := rest[:at], rest[at+1:]
	ok = areDigits(whole) && areDigits(tail)
	if rest[at] == '.' {
		return negative, natural(whole + tail), "1" + strings.Repeat("0", len(tail)), ok
	}
	den = natural(tail)
	return negative, natural(whole), den, ok && den != "0"
}

// areDigits reports whether a text has digits, and nothing else.
func areDigits(text string) bool {
	for i := range len(text) {
		if text[i] < '0' || text[i] > '9' {
			return false
		}
	}
	return text != ""
}

// natural drops the zeros in front of a natural number.
func natural(digits string) string {
	n := strings.TrimLeft(digits, "0")
	if n == "" {
		return "0"
	}
	return n
}
