package iface_test

import (
	"math"
	"math/rand"
	"slices"
	"strings"
	"testing"

	"pandect/api"
	"pandect/iface"
	"pandect/octets"
	"pandect/sample"
)

// encoded are the bytes of an interface that may be.
func encoded(t *testing.T, l []api.Item) string {
	t.Helper()
	s, err := iface.Encode(l)
	if err != api.OK {
		t.Fatal(l, err)
	}
	return s
}

// faces are interfaces of few bytes, in which each kind of item and of type stands.
func faces() [][]api.Item {
	l := [][]api.Item{nil, sample.Face("opaque A", "opaque B"), sample.Face("type A Int", "opaque B", "let c Bool")}
	for _, text := range []string{"Int", "q/K", "[Any]", "{}", "{a: Int}", "<a: Int | b: Text>", "() -> Int", "({b: Int}) -> q/K"} {
		l = append(l, sample.Face("let f "+text), sample.Face("type F "+text, "let g Int"))
	}
	return l
}

// TestCut: P16.2, what is cut off, or has something behind or ahead, is no interface's.
func TestCut(t *testing.T) {
	for _, l := range faces() {
		s := encoded(t, l)
		for n := range s {
			wantNoBytes(t, s[:n])
		}
		for b := range 256 {
			wantNoBytes(t, s+string([]byte{byte(b)}))
			wantBytes(t, string([]byte{byte(b)})+s)
		}
		wantNoBytes(t, s+s)
		wantNoBytes(t, s+strings.Repeat("\x00", 1000))
		wantNoBytes(t, s+strings.Repeat("\xff", 1000))
	}
}

// TestChanged: P16.2, P16.6, each byte in the place of each other one, each byte left out, said twice or put between.
func TestChanged(t *testing.T) {
	count := 0
	for _, l := range faces() {
		s := encoded(t, l)
		for i := range s {
			wantBytes(t, s[:i]+s[i+1:])
			for b := range 256 {
				one := string([]byte{byte(b)})
				if wantBytes(t, s[:i]+one+s[i+1:]) {
					count++
				}
				if b < 12 || b > 246 || b == int(s[i]) {
					wantBytes(t, s[:i]+one+s[i:])
				}
			}
		}
	}
	if count < 500 {
		t.Error(count)
	}
}

// TestShort: P16.2, all short texts of bytes that interfaces have.
func TestShort(t *testing.T) {
	some := []byte{0, 1, 2, 3, 4, 5, 6, 7, 8, 10, 'A', 'B', 'f', 248}
	count := 0
	var each func(s string, more int)
	each = func(s string, more int) {
		if wantBytes(t, s) {
			count++
		}
		for _, b := range some {
			if more > 0 {
				each(s+string([]byte{b}), more-1)
			}
		}
	}
	each("", 4)
	each("\x02\x02\x01A", 3)
	for _, s := range []string{"\x01\x03\x01f", "\x01\x03\x01f\x05\x00\x00\x00\x01", "\x01\x03\x01f\x06\x00\x00\x01\x01f\x01"} {
		each(s, 5)
	}
	// None, A or B alone, both, and six types in each of three places.
	if count != 22 {
		t.Error(count)
	}
}

// TestTaken: P16.2, many bytes that are those of interfaces but for some changes.
func TestTaken(t *testing.T) {
	pick := sample.Pick(rand.New(rand.NewSource(2)).Intn)
	m := sample.Maker{Pick: pick, Env: sample.World(nil)}
	count := map[bool]int{}
	for range 20000 {
		s := []byte(encoded(t, m.Face()))
		for range 1 + pick(2) {
			i := pick(len(s))
			switch pick(3) {
			case 0:
				s[i] = byte(pick(12))
			case 1:
				s[i] += byte(pick(3) - 1)
			case 2:
				j := i + pick(len(s)-i)
				s = slices.Concat(s[:j], s[i:])
			}
		}
		count[wantBytes(t, string(s))]++
	}
	if count[true] < 1000 || count[false] < 10000 {
		t.Error(count)
	}
}

// TestNumbers: P16.2, numbers that are beyond what may be, however great, and numbers that are not in their one form.
func TestNumbers(t *testing.T) {
	for _, c := range []struct {
		ahead, behind string
		number        uint64
	}{
		{"", "\x03\x01f\x01\x00\x00\x00\x00", 1},
		{"\x01", "\x01f\x01\x00\x00\x00\x00", 3},
		{"\x01", "\x01A\x01\x00\x00\x00\x00", 1},
		{"\x01", "\x01A", 2},
		{"\x01\x03", "f\x01\x00\x00\x00\x00", 1},
		{"\x01\x03\x01f", "\x00\x00\x00\x00", 1},
		{"\x01\x03\x01f\x01", "\x00\x00\x00", 0},
		{"\x01\x03\x01f\x01\x00", "\x00\x00", 0},
		{"\x01\x03\x01f\x01\x00\x00", "\x00", 0},
		{"\x01\x03\x01f\x01\x00\x00\x00", "", 0},
		{"\x01\x03\x01f\x06\x00\x00", "\x01a\x01\x01\x00\x00\x00\x00", 1},
		{"\x01\x03\x01f\x06\x00\x00\x01", "a\x01\x01\x00\x00\x00\x00", 1},
		{"\x01\x03\x01f\x06\x00\x00\x01\x01a", "\x01\x00\x00\x00\x00", 1},
	} {
		n := octets.Number(c.number)
		if !wantBytes(t, c.ahead+n+c.behind) {
			t.Errorf("%x is an interface's", c.ahead+n+c.behind)
		}
		for k := 1; k <= 8; k++ {
			long := string([]byte{byte(247 + k)}) + strings.Repeat("\x00", k-1) + n
			wantNoBytes(t, c.ahead+long+c.behind)
			if k > 3 {
				// A number that is c's but for bits that an int may have no room for.
				wantNoBytes(t, c.ahead+octets.Number(1<<(8*(k-1))+c.number)+c.behind)
			}
		}
		for _, great := range []uint64{61, 400, 401, math.MaxInt32, math.MaxUint32, math.MaxInt64, math.MaxInt64 + 1, math.MaxInt64 + 2, math.MaxUint64 - 1, math.MaxUint64} {
			wantNoBytes(t, c.ahead+octets.Number(great)+c.behind)
			wantNoBytes(t, c.ahead+octets.Number(great)+strings.Repeat(c.behind, 1000))
		}
	}
}

// TestGreat: rule 1, what is far beyond the limits is told to be no interface's at once, though each of its numbers says what is there.
func TestGreat(t *testing.T) {
	const many = 1 << 22
	head := "\x01\x03\x01f"
	deep := strings.Repeat("\x05\x00\x00\x00\x01", many)
	for _, s := range []string{
		head + deep + "\x01\x00\x00\x00\x00",
		head + deep,
		head + strings.Repeat("\x08\x00\x00\x00\x02", many),
		head + "\x06\x00\x00" + octets.Number(many) + strings.Repeat("\x00", many) + "\x00",
		head + "\x08\x00\x00\x00" + octets.Number(many) + strings.Repeat("\x01\x00\x00\x00\x00", many),
		head + "\x0a\x01q" + octets.Text(strings.Repeat("K", many)) + "\x00\x00",
		"\x01\x02" + octets.Text(strings.Repeat("K", many)),
		octets.Number(many) + strings.Repeat("\x02\x01A", many),
		strings.Repeat("\x00", many),
		strings.Repeat("\xff", many),
		strings.Repeat("\x01", many),
		strings.Repeat("\x03", many),
	} {
		wantNoBytes(t, s)
	}
	// Parts of all types count for themselves: in one type too many are none's.
	full := sample.Numbered(api.ShRecord, 1000, 399, sample.Int())
	wantOne(t, []api.Item{{Kind: api.DeType, Name: "A", Shape: full}, {Kind: api.DeLet, Name: "a", Shape: full}})
	part := sample.Numbered(api.ShRecord, 1000, 9, sample.Int())
	for range 3 {
		part = sample.Fun(slices.Repeat([]api.Shape{part}, 9)...)
		wantModel(t, let("f", part))
	}
}

// TestApart: P16.5, P16.6, interfaces of one item that are not the same have neither bytes nor texts in common.
func TestApart(t *testing.T) {
	var types []api.Shape
	i, k := sample.Int(), sample.Type("own/K")
	for _, s := range []api.Shape{i, k, sample.List(i), {Kind: api.ShRecord}, {Kind: api.ShVariant}, sample.Fun(i)} {
		types = append(types, s)
		for _, one := range []api.Shape{i, k, sample.List(i), sample.Fun(i), {Kind: api.ShRecord}} {
			types = append(types, sample.Fun(s, one), sample.Fun(sample.Fun(s), one), sample.Fun(s, sample.Fun(one)), sample.Record([]string{"a", "b"}, s, one), sample.Record([]string{"a"}, sample.Record([]string{"b"}, sample.Fun(s, one))), sample.Variant([]string{"a", "b"}, s, one), sample.Record([]string{"a"}, sample.Fun(s, sample.Variant([]string{"b"}, one))))
		}
	}
	texts, bytes := map[string]string{}, map[string]string{}
	for _, s := range types {
		for _, l := range [][]api.Item{let("f", s), let("g", s), {{Kind: api.DeType, Name: "F", Shape: s}}, {{Kind: api.DeOpaque, Name: "F"}, {Kind: api.DeLet, Name: "f", Shape: s}}} {
			wantOne(t, l)
			text, _ := iface.Show(l)
			for of, seen := range map[string]map[string]string{text: texts, encoded(t, l): bytes} {
				if other, ok := seen[of]; ok && other != key(l) {
					t.Errorf("%q is that of %v, and of %s", of, l, other)
				}
				seen[of] = key(l)
			}
		}
	}
	if len(texts) < 500 || len(texts) != len(bytes) {
		t.Error(len(texts), len(bytes))
	}
}
