package letters

import (
	"strings"

	"abugida/api"
)

// quotedEmpty is how the empty name is written: no text at all could not be seen.
const quotedEmpty = "%0"

const hexDigits = "0123456789abcdef"

// Quote writes a name so that it can stand in a text with a syntax.
func Quote(name string) (text string) {
	if name == "" {
		return quotedEmpty
	}
	var b strings.Builder
	for at, r := range name {
		class := classOf(r)
		switch {
		case isStray(name, at, r) || isControl(r):
			b.WriteString("%x")
			b.WriteByte(hexDigits[name[at]>>4])
			b.WriteByte(hexDigits[name[at]&15])
		case class == space || class == mark:
			b.WriteByte('%')
			b.WriteRune(r)
		default:
			b.WriteRune(r)
		}
	}
	return b.String()
}

func isControl(r rune) bool {
	return r < 0x20 || r == 0x7F
}

// Unquote returns the name whose Quote is a text.
func Unquote(text string) (name string, e api.Errno) {
	if text == quotedEmpty {
		return "", api.OK
	}
	name, ok := expand(text)
	// expand also takes texts that Quote never writes, such as %a or %x41;
	// quoting the name again tells them all apart.
	if !ok || Quote(name) != text {
		return "", api.ErrForm
	}
	return name, api.OK
}

// expand replaces %x and two digits by their byte, and drops the % in front
// of anything else. It fails if a % is not followed by what it needs.
func expand(text string) (name string, ok bool) {
	var b strings.Builder
	for i := 0; i < len(text); {
		rest := text[i:]
		switch {
		case rest[0] != '%':
			b.WriteByte(rest[0])
			i++
		case strings.HasPrefix(rest, "%x"):
			if len(rest) < 4 {
				return "", false
			}
			high, low := strings.IndexByte(hexDigits, rest[2]), strings.IndexByte(hexDigits, rest[3])
			if high < 0 || low < 0 {
				return "", false
			}
			b.WriteByte(byte(high<<4 | low))
			i += 4
		default:
			if len(rest) < 2 {
				return "", false
			}
			b.WriteByte(rest[1])
			i += 2
		}
	}
	return b.String(), true
}
