package crc_test

import (
	"hash/crc32"
	"math/bits"
	"slices"
	"strings"
	"testing"

	"pandect/crc"
)

// known are texts whose sums are published: those of RFC 3720, section B.4, and some of everyday.
var known = []struct {
	text string
	sum  uint32
}{
	{"", 0},
	{"a", 0xc1d04330},
	{"123456789", 0xe3069283},
	{"The quick brown fox jumps over the lazy dog", 0x22620404},
	{strings.Repeat("\x00", 32), 0x8a9136aa},
	{strings.Repeat("\xff", 32), 0x62a8ab43},
	{rising(32), 0x46dd794e},
	{falling(32), 0x113fdb5c},
	{"\x01\xc0\x00\x00\x00\x00\x00\x00\x00\x00\x00\x00\x00\x00\x00\x00\x14\x00\x00\x00\x00\x00\x04\x00\x00\x00\x00\x14\x00\x00\x00\x18\x28\x00\x00\x00\x00\x00\x00\x00\x02\x00\x00\x00\x00\x00\x00\x00", 0xd9963a56},
}

// rising tells the bytes 0, 1, 2 and so on.
func rising(n int) string {
	b := make([]byte, n)
	for i := range b {
		b[i] = byte(i)
	}
	return string(b)
}

// falling tells the bytes of rising from behind.
func falling(n int) string {
	b := []byte(rising(n))
	slices.Reverse(b)
	return string(b)
}

// spread tells the i-th of many numbers, always the same ones.
func spread(i int) uint64 {
	z := uint64(i+1) * 0x9e3779b97f4a7c15
	z = (z ^ z>>30) * 0xbf58476d1ce4e5b9
	z = (z ^ z>>27) * 0x94d049bb133111eb
	return z ^ z>>31
}

// bytesFrom tells n bytes of any kind, other ones for each seed.
func bytesFrom(seed, n int) string {
	b := make([]byte, n)
	for i := range b {
		b[i] = byte(spread(seed*100003 + i))
	}
	return string(b)
}

// model tells the sum as P2.1 words it: a list of 32 bits, the lowest first, and a step for each bit of each byte.
func model(parts ...string) uint32 {
	var register [32]bool
	for i := range register {
		register[i] = true
	}
	for _, p := range parts {
		for i := 0; i < len(p); i++ {
			for k := 0; k < 8; k++ {
				register = step(register, p[i]>>k&1 == 1)
			}
		}
	}
	sum := uint32(0)
	for i, b := range register {
		if !b {
			sum |= 1 << i
		}
	}
	return sum
}

func step(r [32]bool, b bool) [32]bool {
	turn := r[0] != b
	var next [32]bool
	copy(next[:], r[1:])
	for i := range next {
		if turn && uint32(0x82f63b78)>>i&1 == 1 {
			next[i] = !next[i]
		}
	}
	return next
}

// TestKnown: P2.1, by sums that others have told.
func TestKnown(t *testing.T) {
	for _, k := range known {
		if got := crc.Sum(k.text); got != k.sum {
			t.Errorf("Sum(%q) = %08x, want %08x", k.text, got, k.sum)
		}
	}
}

// TestNothing: P2.1, no parts and parts without a byte.
func TestNothing(t *testing.T) {
	if crc.Sum() != 0 || crc.Sum([]string{}...) != 0 || crc.Sum("") != 0 || crc.Sum("", "", "") != 0 {
		t.Error("the sum of nothing is not 0")
	}
}

// TestModel: P2.1, all texts of up to two bytes and longer ones of any bytes, against the words of the chapter.
func TestModel(t *testing.T) {
	for a := range 256 {
		one := string([]byte{byte(a)})
		if got, want := crc.Sum(one), model(one); got != want {
			t.Fatalf("Sum(%q) = %08x, want %08x", one, got, want)
		}
		for b := range 256 {
			two := string([]byte{byte(a), byte(b)})
			if got, want := crc.Sum(two), model(two); got != want {
				t.Fatalf("Sum(%q) = %08x, want %08x", two, got, want)
			}
		}
	}
	for n := range 100 {
		s := bytesFrom(n, n)
		if got, want := crc.Sum(s), model(s); got != want {
			t.Fatalf("Sum(%q) = %08x, want %08x", s, got, want)
		}
	}
}

// TestLong: P2.1 and P2.2, texts as long as disks and beyond, by another's sum.
func TestLong(t *testing.T) {
	castagnoli := crc32.MakeTable(crc32.Castagnoli)
	for _, n := range []int{63, 64, 65, 20000, 262144, 1 << 20} {
		s := bytesFrom(n, n)
		want := crc32.Checksum([]byte(s), castagnoli)
		if got := crc.Sum(s); got != want {
			t.Errorf("Sum of %d bytes = %08x, want %08x", n, got, want)
		}
		if got := crc.More(crc.Sum(s[:n/3]), s[n/3:]); got != want {
			t.Errorf("More up to %d bytes = %08x, want %08x", n, got, want)
		}
	}
}

// TestMore: P2.2, from every beginning of a text, and from sums that are any numbers.
func TestMore(t *testing.T) {
	for _, k := range known {
		for cut := range len(k.text) + 1 {
			if got := crc.More(crc.Sum(k.text[:cut]), k.text[cut:]); got != k.sum {
				t.Errorf("More behind %q = %08x, want %08x", k.text[:cut], got, k.sum)
			}
		}
	}
	castagnoli := crc32.MakeTable(crc32.Castagnoli)
	sums := []uint32{0, 1, 2, 1 << 31, 1<<31 - 1, 1<<32 - 1, 1<<32 - 2}
	for i := range 200 {
		sums = append(sums, uint32(spread(i)))
	}
	for i, sum := range sums {
		if got := crc.More(sum, ""); got != sum {
			t.Errorf("More(%08x, nothing) = %08x", sum, got)
		}
		s := bytesFrom(i, 1+i%40)
		if got, want := crc.More(sum, s), crc32.Update(sum, castagnoli, []byte(s)); got != want {
			t.Errorf("More(%08x, %q) = %08x, want %08x", sum, s, got, want)
		}
	}
}

// TestParts: P2.3, one text parted in every way at up to three places, empty parts among them.
func TestParts(t *testing.T) {
	s := bytesFrom(7, 24)
	want := crc.Sum(s)
	for a := range len(s) + 1 {
		for b := a; b <= len(s); b++ {
			for c := b; c <= len(s); c++ {
				parts := []string{s[:a], s[a:b], s[b:c], s[c:]}
				if got := crc.Sum(parts...); got != want {
					t.Fatalf("Sum(%q) = %08x, want %08x", parts, got, want)
				}
				if got := crc.More(crc.More(crc.Sum(parts[0], parts[1]), parts[2]), parts[3]); got != want {
					t.Fatalf("More through %q = %08x, want %08x", parts, got, want)
				}
			}
		}
	}
	if crc.Sum("ab", "c") == crc.Sum("c", "ab") {
		t.Error("the order of the parts is not to be seen")
	}
}

// TestPartsUnchanged: rule 4, what is handed in stays as it was.
func TestPartsUnchanged(t *testing.T) {
	room := []string{"12", "34", "spare"}
	crc.Sum(room[:2]...)
	if !slices.Equal(room, []string{"12", "34", "spare"}) {
		t.Errorf("the parts are now %q", room)
	}
}

// flip turns the bits of pattern round in s, the lowest at the bit place (a byte's lowest bit first).
func flip(s string, pattern uint32, place int) string {
	b := []byte(s)
	for k := range 32 {
		if pattern>>k&1 == 1 {
			b[(place+k)/8] ^= 1 << ((place + k) % 8)
		}
	}
	return string(b)
}

// patterns tells bursts of up to 32 bits, each with its lowest bit set: all of up to four bits, all of up to 10 bits in length, and many others.
func patterns() []uint32 {
	l := []uint32{1, 1<<32 - 1, 1<<31 | 1}
	for i := uint32(0); i < 1<<9; i++ {
		l = append(l, i<<1|1)
	}
	for a := 1; a < 32; a++ {
		for b := a; b < 32; b++ {
			for c := b; c < 32; c++ {
				l = append(l, 1|1<<a|1<<b|1<<c)
			}
		}
	}
	for i := range 3000 {
		l = append(l, uint32(spread(i))|1)
	}
	return l
}

// TestBursts: P2.4, bursts in a text at every bit where they fit.
func TestBursts(t *testing.T) {
	s := bytesFrom(3, 11)
	sum := crc.Sum(s)
	for _, p := range patterns() {
		for place := 0; place+bits.Len32(p) <= 8*len(s); place++ {
			if other := flip(s, p, place); crc.Sum(other) == sum {
				t.Fatalf("%x and %x have one sum", s, other)
			}
		}
	}
}

// TestBurstsAreDistinct: P2.4, of texts that differ within one window of 32 bits no two have one sum, seen where all of 16 bits are tried.
func TestBurstsAreDistinct(t *testing.T) {
	s := bytesFrom(5, 9)
	for _, place := range []int{0, 3, 40} {
		for _, apart := range []int{1, 2} {
			seen := map[uint32]uint32{}
			for w := uint32(0); w < 1<<16; w++ {
				pattern := uint32(0)
				for k := range 16 {
					pattern |= w >> k & 1 << (k * apart)
				}
				sum := crc.Sum(flip(s, pattern, place))
				if was, ok := seen[sum]; ok {
					t.Fatalf("patterns %x and %x at %d have one sum", was, pattern, place)
				}
				seen[sum] = pattern
			}
		}
	}
}

// TestLinear: P2.5, texts of one length and their exclusive or.
func TestLinear(t *testing.T) {
	for n := range 70 {
		a, b, c := bytesFrom(3*n, n), bytesFrom(3*n+1, n), bytesFrom(3*n+2, n)
		d := make([]byte, n)
		for i := range d {
			d[i] = a[i] ^ b[i] ^ c[i]
		}
		if x := crc.Sum(a) ^ crc.Sum(b) ^ crc.Sum(c) ^ crc.Sum(string(d)); x != 0 {
			t.Errorf("of %d bytes: the sums come to %08x together", n, x)
		}
	}
}

// TestAgain: rule 5, a call answers the same each time.
func TestAgain(t *testing.T) {
	first := crc.Sum("123456789")
	crc.More(first, "other")
	if crc.Sum("123456789") != first {
		t.Error("a sum hangs on the calls ahead of it")
	}
}
