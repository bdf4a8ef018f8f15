// Package octets is layer 1: see shared/doc/01-octets.md.
package octets

import (
	"math/bits"
	"strings"

	"pandect/api"
)

// single is the greatest number that is its own byte; the eight bytes above it say how many bytes a number takes.
const single = 247

// Number lays a number.
func Number(n uint64) string {
	if n <= single {
		return string([]byte{byte(n)})
	}
	k := (bits.Len64(n) + 7) / 8
	b := []byte{byte(single + k)}
	for i := range k {
		b = append(b, byte(n>>(8*(k-1-i))))
	}
	return string(b)
}

// TakeNumber takes one.
func TakeNumber(s string, at int) (uint64, int, api.Errno) {
	if at < 0 || at > len(s) {
		return 0, 0, api.ErrArg
	}
	end := at
	take := func() (byte, bool) {
		if end == len(s) {
			return 0, false
		}
		end++
		return s[end-1], true
	}
	first, ok := take()
	if !ok {
		return 0, 0, api.ErrShort
	}
	if first <= single {
		return uint64(first), end, api.OK
	}
	n := uint64(0)
	for range int(first) - single {
		b, ok := take()
		if !ok {
			return 0, 0, api.ErrShort
		}
		n = n<<8 | uint64(b)
	}
	// A number has one form only, so that what is taken is laid again as it stood.
	if Number(n) != s[at:end] {
		return 0, 0, api.ErrForm
	}
	return n, end, api.OK
}

// Text lays a text.
func Text(s string) string { return Number(uint64(len(s))) + s }

// TakeText takes one.
func TakeText(s string, at int) (string, int, api.Errno) {
	n, start, err := TakeNumber(s, at)
	if err != api.OK {
		return "", 0, err
	}
	// The number may be above any int, so it is held against what is left and not added to the place.
	if n > uint64(len(s)-start) {
		return "", 0, api.ErrShort
	}
	end := start + int(n)
	// A copy, so that a small text does not keep the great one alive that it was taken from.
	return strings.Clone(s[start:end]), end, api.OK
}

// List lays texts.
func List(l ...string) string {
	var b strings.Builder
	b.WriteString(Number(uint64(len(l))))
	for _, s := range l {
		b.WriteString(Text(s))
	}
	return b.String()
}

// TakeList takes them.
func TakeList(s string, at int) ([]string, int, api.Errno) {
	n, end, err := TakeNumber(s, at)
	if err != api.OK {
		return nil, 0, err
	}
	// No room is made ahead: the number may say far more texts than the bytes hold.
	var l []string
	for range n {
		t, next, err := TakeText(s, end)
		if err != api.OK {
			return nil, 0, err
		}
		l = append(l, t)
		end = next
	}
	return l, end, api.OK
}
