package utf_test

import (
	"encoding/hex"
	"math"
	"slices"
	"strings"
	"testing"
	"unicode/utf8"

	"pandect/api"
	"pandect/utf"
)

// bytesOf reads bytes as the chapters write them, to the base 16 with blanks between.
func bytesOf(t *testing.T, text string) string {
	t.Helper()
	b, err := hex.DecodeString(strings.ReplaceAll(text, " ", ""))
	if err != nil {
		t.Fatal(err)
	}
	return string(b)
}

// pattern tells the bytes of p as the chapter draws them: the number's bits, the highest first, in the x.
func pattern(p int) string {
	form := "11110xxx 10xxxxxx 10xxxxxx 10xxxxxx"
	switch {
	case p < 0x80:
		form = "0xxxxxxx"
	case p < 0x800:
		form = "110xxxxx 10xxxxxx"
	case p < 0x10000:
		form = "1110xxxx 10xxxxxx 10xxxxxx"
	}
	bits := strings.Count(form, "x")
	var b []byte
	for _, drawn := range strings.Fields(form) {
		n := byte(0)
		for _, c := range drawn {
			n *= 2
			if c == 'x' {
				bits--
				n += byte(p >> bits & 1)
			} else if c == '1' {
				n++
			}
		}
		b = append(b, n)
	}
	return string(b)
}

// points tells all code points, rising.
func points() []int {
	var l []int
	for p := 0; p <= 0x10ffff; p++ {
		if p < 0xd800 || p > 0xdfff {
			l = append(l, p)
		}
	}
	return l
}

// edges tells the code points at which the form changes, and some between them.
func edges() []int {
	return []int{0, 1, 9, 10, 11, 97, 0x7e, 0x7f, 0x80, 0x81, 0xbf, 0xc0, 0xe9, 0xff, 0x100, 0x7ff, 0x800, 0x801, 0xfff, 0x1000, 0x20ac, 0xd7ff, 0xe000, 0xfffd, 0xfffe, 0xffff, 0x10000, 0x10001, 0x1f600, 0x3ffff, 0x40000, 0xfffff, 0x100000, 0x10fffe, 0x10ffff}
}

// noPoints tells numbers that are no code points.
func noPoints() []int {
	return []int{-1, -2, -0x80, -0x10000, 0xd800, 0xd801, 0xdbff, 0xdc00, 0xdffe, 0xdfff, 0x110000, 0x110001, 0x1fffff, 0x200000, math.MinInt32, math.MaxInt32, 1<<32 + 97, 1 << 32, -1<<32 + 97, math.MinInt, math.MinInt + 97, math.MaxInt}
}

// spread tells the i-th of many numbers, always the same ones.
func spread(i int) uint64 {
	z := uint64(i+1) * 0x9e3779b97f4a7c15
	z = (z ^ z>>30) * 0xbf58476d1ce4e5b9
	z = (z ^ z>>27) * 0x94d049bb133111eb
	return z ^ z>>31
}

// anyPoints tells n code points of all lengths, other ones for each seed.
func anyPoints(seed, n int) []int {
	l := []int{}
	for i := range n {
		z := spread(seed*1009 + i)
		p := int(z>>8) % []int{0x80, 0x800, 0x10000, 0x110000}[z%4]
		if p >= 0xd800 && p <= 0xdfff {
			p -= 0x800
		}
		l = append(l, p)
	}
	return l
}

// unit is a code point's bytes in a text, or a byte that begins none's: where it begins, and how long it is.
type unit struct{ at, size, point int }

// units tells a text's units by another's reading: point is -1, where there is none.
func units(s string) []unit {
	var l []unit
	for at := 0; at < len(s); {
		r, size := utf8.DecodeRuneInString(s[at:])
		p := int(r)
		if r == utf8.RuneError && size == 1 {
			p = -1
		}
		l = append(l, unit{at, size, p})
		at += size
	}
	return l
}

// decoded tells what Decode is to answer.
func decoded(s string) ([]int, api.Fault) {
	var l []int
	for _, u := range units(s) {
		if u.point < 0 {
			return nil, api.Fault{Err: api.ErrUTF, At: u.at}
		}
		l = append(l, u.point)
	}
	return l, api.Fault{}
}

// placed tells what Place is to answer of a place in s.
func placed(s string, at int) (int, int) {
	line, begin := 1, 0
	for i := range at {
		if s[i] == 10 {
			line, begin = line+1, i+1
		}
	}
	column := 1
	for _, u := range units(s) {
		if u.at >= begin && u.at+u.size <= at {
			column++
		}
	}
	return line, column
}

// everyText calls visit with each text of up to most of these bytes.
func everyText(alphabet string, most int, visit func(string)) {
	visit("")
	if most == 0 {
		return
	}
	for i := range len(alphabet) {
		everyText(alphabet, most-1, func(rest string) { visit(alphabet[i:i+1] + rest) })
	}
}

func wantDecoded(t *testing.T, s string) {
	t.Helper()
	l, f := utf.Decode(s)
	want, fault := decoded(s)
	if !slices.Equal(l, want) || f != fault {
		t.Fatalf("Decode of %x: %x, %v, want %x, %v", s, l, f, want, fault)
	}
}

func wantNoText(t *testing.T, s string, at int) {
	t.Helper()
	if l, f := utf.Decode(s); len(l) != 0 || f != (api.Fault{Err: api.ErrUTF, At: at}) {
		t.Errorf("Decode of %x: %x, %v, want ErrUTF at %d", s, l, f, at)
	}
}

func wantPlace(t *testing.T, s string, at, line, column int) {
	t.Helper()
	if l, c, e := utf.Place(s, at); l != line || c != column || e != api.OK {
		t.Fatalf("Place of %x at %d: line %d, column %d, error %d, want line %d, column %d", s, at, l, c, int(e), line, column)
	}
}

// The chapter's examples.
func TestExamples(t *testing.T) {
	if l, f := utf.Decode("aé"); !slices.Equal(l, []int{97, 233}) || f != (api.Fault{}) {
		t.Error(l, f)
	}
	wantNoText(t, "\x61\xc0\x80", 1)
	if s, e := utf.Encode(55296); s != "" || e != api.ErrUTF {
		t.Error(s, int(e))
	}
	wantPlace(t, "éx", 2, 1, 2)
}

// P3.1: the edges of each form, byte by byte.
func TestDecodeEdges(t *testing.T) {
	for text, p := range map[string]int{
		"00": 0, "0a": 10, "7f": 0x7f,
		"c2 80": 0x80, "c3 a9": 0xe9, "df bf": 0x7ff,
		"e0 a0 80": 0x800, "e2 82 ac": 0x20ac, "ed 9f bf": 0xd7ff, "ee 80 80": 0xe000, "ef bf bd": 0xfffd, "ef bf bf": 0xffff,
		"f0 90 80 80": 0x10000, "f0 9f 98 80": 0x1f600, "f4 8f bf bf": 0x10ffff,
	} {
		if l, f := utf.Decode(bytesOf(t, text)); !slices.Equal(l, []int{p}) || f != (api.Fault{}) {
			t.Errorf("Decode of %s: %x, %v, want %x", text, l, f, p)
		}
	}
	if l, f := utf.Decode(""); len(l) != 0 || f != (api.Fault{}) {
		t.Error("of nothing:", l, f)
	}
}

// P3.1: what is no code point's bytes, behind texts of all lengths.
func TestDecodeWrong(t *testing.T) {
	for _, text := range []string{
		"80", "bf", "c0", "c1", "f5", "f8", "fc", "fe", "ff", // no first bytes
		"c0 80", "c1 bf", "e0 80 80", "e0 9f bf", "f0 80 80 80", "f0 8f bf bf", "f8 88 80 80 80", // too long
		"ed a0 80", "ed af bf", "ed b0 80", "ed bf bf", "ed a0 bd ed b8 80", // from d800 to dfff
		"f4 90 80 80", "f5 80 80 80", "f7 bf bf bf", // above 10ffff
		"c3", "e2", "e2 82", "f0", "f0 9f", "f0 9f 98", // too short
		"c3 28", "c3 c3 a9", "e2 28 a1", "e2 82 28", "e2 82 c0", "f0 28 8c bc", "f0 90 28 bc", "f0 28 8c 28", "f0 9f 98 7f", // that do not go on
	} {
		s := bytesOf(t, text)
		for _, ahead := range []string{"", "a", "\n", "é", "a€", "\U0001f600\x00"} {
			// None of these begins with a byte that goes on, so none makes a code point's bytes of s.
			for _, behind := range []string{"", "a", "é", "\xff"} {
				wantNoText(t, ahead+s+behind, len(ahead))
			}
		}
	}
	wantNoText(t, "é\x80\xff", 2)
	wantNoText(t, "\xc3\x80\x80", 2)
}

// P3.1: all texts of two bytes, and of three and four bytes those that a first one begins.
func TestDecodeAll(t *testing.T) {
	for a := range 256 {
		wantDecoded(t, string([]byte{byte(a)}))
		for b := range 256 {
			wantDecoded(t, string([]byte{byte(a), byte(b)}))
			if a < 0xe0 {
				continue
			}
			for _, c := range []byte{0, 0x7f, 0x80, 0x81, 0x9f, 0xa0, 0xbf, 0xc0, 0xff} {
				wantDecoded(t, string([]byte{byte(a), byte(b), c}))
				for _, d := range []byte{0, 0x0a, 0x7f, 0x80, 0xac, 0xbf, 0xc0, 0xe2, 0xff} {
					wantDecoded(t, string([]byte{byte(a), byte(b), c, d}))
				}
			}
		}
	}
	everyText("a\n\x80\xa0\xbf\xc3\xe0\xed\xf0\xf4", 5, func(s string) { wantDecoded(t, s) })
}

// P3.2: the bytes of each code point, as the chapter draws them.
func TestEncodeAll(t *testing.T) {
	for _, p := range points() {
		if s, e := utf.Encode(p); s != pattern(p) || s != string(rune(p)) || e != api.OK {
			t.Fatalf("Encode of %x: %x, error %d, want %x", p, s, int(e), pattern(p))
		}
	}
	if s, e := utf.Encode(edges()...); s != strings.Join(drawn(edges()), "") || e != api.OK {
		t.Errorf("%x, error %d", s, int(e))
	}
}

// drawn tells the bytes of each code point.
func drawn(l []int) []string {
	var texts []string
	for _, p := range l {
		texts = append(texts, pattern(p))
	}
	return texts
}

// P3.2: nothing comes of nothing.
func TestEncodeNothing(t *testing.T) {
	if s, e := utf.Encode(); s != "" || e != api.OK {
		t.Error(s, int(e))
	}
	if s, e := utf.Encode([]int{}...); s != "" || e != api.OK {
		t.Error(s, int(e))
	}
}

// P3.2: a number that is none, alone and at each place among others.
func TestEncodeWrong(t *testing.T) {
	for p := 0xd800; p <= 0xdfff; p++ {
		if s, e := utf.Encode(p); s != "" || e != api.ErrUTF {
			t.Fatalf("Encode of %x: %x, error %d", p, s, int(e))
		}
	}
	for _, p := range noPoints() {
		for _, l := range [][]int{{p}, {p, 97}, {97, p}, {97, p, 233}, {0x1f600, 0x20ac, 10, p}, {p, p}} {
			if s, e := utf.Encode(l...); s != "" || e != api.ErrUTF {
				t.Errorf("Encode of %x: %x, error %d", l, s, int(e))
			}
		}
	}
}

// P3.3: lines and columns of everyday, and where the bytes 10 stand.
func TestPlace(t *testing.T) {
	wantPlace(t, "", 0, 1, 1)
	wantPlace(t, "abc", 0, 1, 1)
	wantPlace(t, "abc", 2, 1, 3)
	wantPlace(t, "abc", 3, 1, 4)
	wantPlace(t, "ab\ncd", 2, 1, 3)
	wantPlace(t, "ab\ncd", 3, 2, 1)
	wantPlace(t, "ab\ncd", 5, 2, 3)
	wantPlace(t, "ab\n", 3, 2, 1)
	wantPlace(t, "\n\n\n", 2, 3, 1)
	wantPlace(t, "\n\n\n", 3, 4, 1)
	wantPlace(t, "a\r\nb", 2, 1, 3)
	wantPlace(t, "a\r\nb", 3, 2, 1)
	wantPlace(t, "a\rb\u2028c\u0085d", 9, 1, 7)
	wantPlace(t, "é€\U0001f600x", 9, 1, 4)
	wantPlace(t, "é€\U0001f600x", 10, 1, 5)
	wantPlace(t, "é\n€a", 6, 2, 2)
}

// P3.3: a place within a code point's bytes, and bytes that begin none's.
func TestPlaceWithin(t *testing.T) {
	for _, p := range edges() {
		s := pattern(p)
		for at := range len(s) {
			wantPlace(t, s, at, 1, 1)
			wantPlace(t, "aé"+s+"b", 3+at, 1, 3)
			wantPlace(t, "a\né"+s, 4+at, 2, 2)
			wantPlace(t, "\xff"+s+"\xff", 1+at, 1, 2)
		}
	}
	wantPlace(t, "\xff\xfe\x80a", 3, 1, 4)
	wantPlace(t, "\xe2\x82", 1, 1, 2)
	wantPlace(t, "\xe2\x82", 2, 1, 3)
	wantPlace(t, "\xe2\x82a", 1, 1, 2)
	wantPlace(t, "\xe2\x82\xac", 1, 1, 1)
	wantPlace(t, "\xe2\x82\xac", 2, 1, 1)
	wantPlace(t, "\xe2\x82\n\xac", 4, 2, 2)
	wantPlace(t, "\xc0\x80\xed\xa0\x80", 5, 1, 6)
	wantPlace(t, "é\x80x", 3, 1, 3)
	wantPlace(t, "\xf4\x90\x80\x80", 4, 1, 5)
}

// P3.3: every place of all short texts of some bytes.
func TestPlaceAll(t *testing.T) {
	everyText("a\n\x82\xac\xc3\xe2\xf0\xff", 5, func(s string) {
		for at := 0; at <= len(s); at++ {
			line, column := placed(s, at)
			wantPlace(t, s, at, line, column)
		}
	})
	for seed := range 40 {
		s, _ := utf.Encode(anyPoints(seed, 60)...)
		s = s[:len(s)/2] + "\n\xff" + s[len(s)/2:]
		for at := 0; at <= len(s); at++ {
			line, column := placed(s, at)
			wantPlace(t, s, at, line, column)
		}
	}
}

// P3.3: places that are none.
func TestPlaceWrong(t *testing.T) {
	for _, s := range []string{"", "a", "é", "a\nb", "\xff"} {
		for _, at := range []int{-1, -2, len(s) + 1, len(s) + 2, math.MinInt, math.MinInt + 1, math.MaxInt, 1 << 32, -1 << 32} {
			if line, column, e := utf.Place(s, at); line != 0 || column != 0 || e != api.ErrArg {
				t.Errorf("Place of %x at %d: line %d, column %d, error %d", s, at, line, column, int(e))
			}
		}
	}
}

// P3.4: Decode of Encode is the code points.
func TestDecodeOfEncode(t *testing.T) {
	all := [][]int{nil, edges(), points()}
	for n := range 200 {
		all = append(all, anyPoints(n, n%50))
	}
	for _, l := range all {
		s, e := utf.Encode(l...)
		if e != api.OK {
			t.Fatal(int(e))
		}
		if back, f := utf.Decode(s); !slices.Equal(back, l) || f != (api.Fault{}) {
			t.Fatalf("%d code points come back as %d, %v", len(l), len(back), f)
		}
	}
}

// P3.4: Encode of Decode is the text; rule 2: beside a fault nothing is told.
func TestEncodeOfDecode(t *testing.T) {
	texts, others := 0, 0
	everyText("a\n\x80\x82\x90\xac\xbf\xc3\xe2\xf0\xf4", 5, func(s string) {
		l, f := utf.Decode(s)
		if f != (api.Fault{}) {
			others++
			if len(l) != 0 {
				t.Fatalf("%x: %x beside %v", s, l, f)
			}
			return
		}
		texts++
		if back, e := utf.Encode(l...); back != s || e != api.OK {
			t.Fatalf("%x comes back as %x, error %d", s, back, int(e))
		}
	})
	if texts == 0 || others == 0 {
		t.Error("texts of code points, and others:", texts, others)
	}
}

// P3.5: of two texts, one behind the other, Decode is both's.
func TestDecodeOfTwo(t *testing.T) {
	for seed := range 100 {
		l, m := anyPoints(2*seed, seed%9), anyPoints(2*seed+1, seed%7)
		a, _ := utf.Encode(l...)
		b, _ := utf.Encode(m...)
		if both, f := utf.Decode(a + b); !slices.Equal(both, slices.Concat(l, m)) || f != (api.Fault{}) {
			t.Errorf("%x and %x: %x, %v", a, b, both, f)
		}
	}
}

// P3.5: a text that is cut within a code point's bytes is none, at that one's first byte; and what is cut off is none either.
func TestDecodeOfCut(t *testing.T) {
	for _, ahead := range []string{"", "a", "é€", "\U0001f600\n"} {
		for _, p := range edges() {
			s := pattern(p)
			for cut := 1; cut < len(s); cut++ {
				wantNoText(t, ahead+s[:cut], len(ahead))
				wantNoText(t, s[cut:]+ahead, 0)
			}
		}
	}
	for seed := range 20 {
		s, _ := utf.Encode(anyPoints(seed, 30)...)
		for _, u := range units(s) {
			for cut := 1; cut < u.size; cut++ {
				wantNoText(t, s[:u.at+cut], u.at)
			}
		}
	}
}

// Rule 4: what is handed in is not changed, its spare room neither, and not kept; what is handed out is new.
func TestNothingIsShared(t *testing.T) {
	in := append(make([]int, 0, 4), 97, 233, 7)
	s, _ := utf.Encode(in[:2]...)
	if !slices.Equal(in, []int{97, 233, 7}) {
		t.Error(in)
	}
	in[0] = 98
	if s != "aé" {
		t.Error(s)
	}
	one, _ := utf.Decode(s)
	one[0] = 0
	one = append(one, 1)
	if two, _ := utf.Decode(s); !slices.Equal(two, []int{97, 233}) {
		t.Error(two, one)
	}
}

// Rule 1: long texts are read to their ends, whatever they hold.
func TestLong(t *testing.T) {
	const n = 1 << 20
	s := strings.Repeat("é", n)
	if l, f := utf.Decode(s); len(l) != n || f != (api.Fault{}) {
		t.Error(len(l), f)
	}
	wantNoText(t, s+"\xff", 2*n)
	wantPlace(t, s, 2*n, 1, n+1)
	wantPlace(t, strings.Repeat("\n", n), n, n+1, 1)
	wantPlace(t, strings.Repeat("\xff", n), n, 1, n+1)
}
