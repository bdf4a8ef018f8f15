package lex

import "strings"

// The signs of a quoted text: it stands between two of the first one; behind the second one a letter stands for a byte.
const (
	quote  = '"'
	escape = '\\'
)

// The letters, and the bytes that they stand for, in one order.
const (
	letters  = `nt"\`
	lettered = "\n\t\"\\"
)

// control is the first byte above those that stand in no quoted text.
const control = 32

// enquote writes a text as a quoted one.
func enquote(s string) string {
	b := []byte{quote}
	for i := range len(s) {
		if k := strings.IndexByte(lettered, s[i]); k >= 0 {
			b = append(b, escape, letters[k])
			continue
		}
		b = append(b, s[i])
	}
	return string(append(b, quote))
}

// unquote reads the quoted text that s begins with: what it stands for, how many bytes it has, and true; or, of none, how many bytes stand ahead of what makes it none. It looks at bytes alone: no other sign is within a code point's bytes.
func unquote(s string) (string, int, bool) {
	var text []byte
	at := 1
	for at < len(s) {
		switch b := s[at]; {
		case b == quote:
			return string(text), at + 1, true
		case b == escape:
			meant, ok := unescape(s[at+1:])
			if !ok {
				return "", at, false
			}
			text = append(text, meant)
			at += 2
		case b < control:
			return "", at, false
		default:
			text = append(text, b)
			at++
		}
	}
	return "", at, false
}

// unescape tells the byte that the letter stands for with which s begins.
func unescape(s string) (byte, bool) {
	if s == "" {
		return 0, false
	}
	k := strings.IndexByte(letters, s[0])
	if k < 0 {
		return 0, false
	}
	return lettered[k], true
}
