package octets_test

import (
	"encoding/hex"
	"math"
	"slices"
	"strings"
	"testing"

	"pandect/api"
	"pandect/octets"
)

// bytesOf reads bytes as the chapters write them, to the base 16 with blanks between.
func bytesOf(t *testing.T, text string) string {
	t.Helper()
	b, err := hex.DecodeString(strings.ReplaceAll(text, " ", ""))
	if err != nil {
		t.Fatal(err)
	}
	return string(b)
}

// edges tells numbers at which the form changes, and their neighbours, rising.
func edges() []uint64 {
	l := []uint64{0, 1, 2, 127, 128, 246, 247, 248, 249, 254, 255}
	for k := 1; k < 8; k++ {
		p := uint64(1) << (8 * k)
		l = append(l, p, p+1, p+247, p+248, p<<7-1, p<<7)
		l = append(l, p<<8-2, p<<8-1)
	}
	slices.Sort(l)
	return slices.Compact(l)
}

// spread tells the i-th of many numbers of all lengths, always the same ones.
func spread(i int) uint64 {
	z := uint64(i+1) * 0x9e3779b97f4a7c15
	z = (z ^ z>>30) * 0xbf58476d1ce4e5b9
	z ^= z >> 27
	return z >> (i % 64)
}

// samples tells the edges and many numbers between them.
func samples() []uint64 {
	l := edges()
	for i := range 1000 {
		l = append(l, spread(i))
	}
	return l
}

// model tells the form of a number as P1.1 words it, by quotients.
func model(n uint64) string {
	if n <= 247 {
		return string([]byte{byte(n)})
	}
	var low []byte
	for ; n > 0; n /= 256 {
		low = append(low, byte(n%256))
	}
	slices.Reverse(low)
	return string([]byte{byte(247 + len(low))}) + string(low)
}

// texts tells texts whose lengths stand at the edges of the form, and of other kinds.
func texts() []string {
	l := []string{"", "a", "ab", "\x00", "\xff", "\xf8\x05", "é", "\xc3\x28", "x\x00y"}
	for _, n := range []int{246, 247, 248, 255, 256, 257, 65535, 65536} {
		l = append(l, strings.Repeat("t", n))
	}
	return l
}

// lists tells lists of texts, some with as many texts as stand at the edges of the form.
func lists() [][]string {
	l := [][]string{nil, {}, {""}, {"a", ""}, {"", "a"}, {"", "", ""}, {"a", "b", "c"}, {"\x02ab"}, {"\xff", "\xf8\x05"}, texts()}
	for _, n := range []int{247, 248, 256, 65536} {
		l = append(l, make([]string, n))
	}
	return l
}

// wantNumberError asks that TakeNumber answers the error, and zero values beside it.
func wantNumberError(t *testing.T, s string, at int, want api.Errno) {
	t.Helper()
	if n, end, err := octets.TakeNumber(s, at); n != 0 || end != 0 || err != want {
		t.Errorf("TakeNumber(%x, %d) = %d, %d, %d, not 0, 0, %d", s, at, n, end, int(err), int(want))
	}
}

// wantTextError asks the same of TakeText.
func wantTextError(t *testing.T, s string, at int, want api.Errno) {
	t.Helper()
	if text, end, err := octets.TakeText(s, at); text != "" || end != 0 || err != want {
		t.Errorf("TakeText(%x, %d) = %q, %d, %d, not nothing with %d", s, at, text, end, int(err), int(want))
	}
}

// wantListError asks the same of TakeList.
func wantListError(t *testing.T, s string, at int, want api.Errno) {
	t.Helper()
	if l, end, err := octets.TakeList(s, at); len(l) != 0 || end != 0 || err != want {
		t.Errorf("TakeList(%x, %d) = %q, %d, %d, not nothing with %d", s, at, l, end, int(err), int(want))
	}
}

// places tells places that are not in a text of that length.
func places(length int) []int {
	return []int{-1, -2, length + 1, length + 2, math.MinInt, math.MaxInt, math.MinInt32, math.MaxInt32}
}

// P1.1
func TestNumberExamples(t *testing.T) {
	for _, c := range []struct {
		n    uint64
		want string
	}{
		{0, "00"}, {1, "01"}, {5, "05"}, {246, "f6"}, {247, "f7"},
		{248, "f8 f8"}, {255, "f8 ff"}, {256, "f9 01 00"}, {65535, "f9 ff ff"},
		{65536, "fa 01 00 00"}, {1<<24 - 1, "fa ff ff ff"}, {1 << 24, "fb 01 00 00 00"},
		{1<<32 - 1, "fb ff ff ff ff"}, {1 << 32, "fc 01 00 00 00 00"},
		{1 << 40, "fd 01 00 00 00 00 00"}, {1 << 48, "fe 01 00 00 00 00 00 00"},
		{1<<56 - 1, "fe ff ff ff ff ff ff ff"}, {1 << 56, "ff 01 00 00 00 00 00 00 00"},
		{0x0123456789abcdef, "ff 01 23 45 67 89 ab cd ef"},
		{math.MaxInt64, "ff 7f ff ff ff ff ff ff ff"}, {math.MaxUint64, "ff ff ff ff ff ff ff ff ff"},
	} {
		if s := octets.Number(c.n); s != bytesOf(t, c.want) {
			t.Errorf("Number(%d) = %x, not %s", c.n, s, c.want)
		}
	}
}

// P1.1
func TestNumberIsAsTheModelLaysIt(t *testing.T) {
	for n := range uint64(1 << 17) {
		if s := octets.Number(n); s != model(n) {
			t.Fatalf("Number(%d) = %x, not %x", n, s, model(n))
		}
	}
	for _, n := range samples() {
		if s := octets.Number(n); s != model(n) {
			t.Errorf("Number(%d) = %x, not %x", n, s, model(n))
		}
	}
}

// P1.2
func TestTakeNumberTellsTheNumberAndThePlaceBehindIt(t *testing.T) {
	for _, n := range samples() {
		for _, ahead := range []string{"", "x", "\xff\xf8"} {
			for _, behind := range []string{"", "\x00", "\xff", "yz"} {
				s := ahead + model(n) + behind
				m, end, err := octets.TakeNumber(s, len(ahead))
				if m != n || end != len(ahead+model(n)) || err != api.OK {
					t.Errorf("TakeNumber(%x, %d) = %d, %d, %d", s, len(ahead), m, end, int(err))
				}
			}
		}
	}
}

// P1.2
func TestTakeNumberRefusesPlacesOutside(t *testing.T) {
	for _, s := range []string{"", "\x05", "\xf8\x05", "\xf9\x01", "\xff"} {
		for _, at := range places(len(s)) {
			wantNumberError(t, s, at, api.ErrArg)
		}
		wantNumberError(t, s, len(s), api.ErrShort)
	}
}

// P1.2: whatever the bytes say, ErrShort comes ahead of ErrForm.
func TestTakeNumberTellsThatBytesAreMissing(t *testing.T) {
	for k := 1; k <= 8; k++ {
		for there := range k {
			for _, fill := range []string{"\x00", "\x05", "\xff"} {
				s := "z" + string([]byte{byte(247 + k)}) + strings.Repeat(fill, there)
				wantNumberError(t, s, 1, api.ErrShort)
			}
		}
	}
}

// P1.2
func TestTakeNumberRefusesLongerForms(t *testing.T) {
	for k := 1; k <= 8; k++ {
		most := uint64(247)
		if k > 1 {
			most = uint64(1)<<(8*(k-1)) - 1
		}
		for _, n := range []uint64{0, 1, 5, most / 2, most - 1, most} {
			long := []byte{byte(247 + k)}
			for i := k - 1; i >= 0; i-- {
				long = append(long, byte(n>>(8*i)))
			}
			wantNumberError(t, string(long), 0, api.ErrForm)
			wantNumberError(t, "a"+string(long)+"b", 1, api.ErrForm)
		}
		least := most + 1
		if n, _, err := octets.TakeNumber(model(least), 0); n != least || err != api.OK {
			t.Errorf("%d: %d, %d", least, n, int(err))
		}
	}
}

// P1.2: all texts of up to two bytes, and those of three whose middle one is of a few.
func TestTakeNumberOfAllShortTexts(t *testing.T) {
	numbers := map[string]uint64{}
	for n := range uint64(1 << 16) {
		numbers[model(n)] = n
	}
	check := func(s string) {
		for end := 1; end <= len(s); end++ {
			if n, ok := numbers[s[:end]]; ok {
				if m, behind, err := octets.TakeNumber(s, 0); m != n || behind != end || err != api.OK {
					t.Fatalf("TakeNumber(%x, 0) = %d, %d, %d", s, m, behind, int(err))
				}
				return
			}
		}
		want := api.ErrForm
		if s == "" || s[0] > 247 && len(s) < int(s[0])-246 {
			want = api.ErrShort
		}
		wantNumberError(t, s, 0, want)
	}
	check("")
	for a := range 256 {
		check(string([]byte{byte(a)}))
		for b := range 256 {
			check(string([]byte{byte(a), byte(b)}))
			for _, c := range []byte{0, 1, 247, 248, 255} {
				check(string([]byte{byte(a), c, byte(b)}))
			}
		}
	}
}

// P1.3
func TestTextExamples(t *testing.T) {
	if s := octets.Text("ab"); s != "\x02ab" {
		t.Errorf("%x", s)
	}
	if s := octets.Text(""); s != "\x00" {
		t.Errorf("%x", s)
	}
	for _, s := range texts() {
		if got := octets.Text(s); got != model(uint64(len(s)))+s {
			t.Errorf("a text of %d bytes is laid as %d bytes", len(s), len(got))
		}
	}
}

// P1.3
func TestTakeTextTellsTheTextAndThePlaceBehindIt(t *testing.T) {
	if s, end, err := octets.TakeText("\x02abc", 0); s != "ab" || end != 3 || err != api.OK {
		t.Error(s, end, int(err))
	}
	if s, end, err := octets.TakeText("\x02ab\x00", 3); s != "" || end != 4 || err != api.OK {
		t.Error(s, end, int(err))
	}
}

// P1.3: TakeNumber's errors come first, whatever stands behind the number.
func TestTakeTextErrors(t *testing.T) {
	for _, s := range []string{"", "\x00", "\x01a", "\xf8\x05"} {
		for _, at := range places(len(s)) {
			wantTextError(t, s, at, api.ErrArg)
		}
		wantTextError(t, s, len(s), api.ErrShort)
	}
	wantTextError(t, "\xf9\x01", 0, api.ErrShort)
	wantTextError(t, "\xf8\x05", 0, api.ErrForm)
	wantTextError(t, "\xf8\x05abcde", 0, api.ErrForm)
	wantTextError(t, "\x01", 0, api.ErrShort)
	wantTextError(t, "\x03ab", 0, api.ErrShort)
	wantTextError(t, "ahead\x03ab", 5, api.ErrShort)
	for _, n := range []int{1, 247, 248, 256, 65536} {
		wantTextError(t, model(uint64(n))+strings.Repeat("t", n-1), 0, api.ErrShort)
	}
}

// P1.3, P1.4: numbers that no int holds, and those whose sum with a place would leave it.
func TestTakeOfGreatNumbers(t *testing.T) {
	for _, n := range []uint64{math.MaxInt32, 1 << 32, math.MaxInt64 - 1, math.MaxInt64, 1 << 63, 1<<63 + 1, math.MaxUint64 - 1, math.MaxUint64} {
		for _, ahead := range []string{"", "ahead"} {
			wantTextError(t, ahead+model(n)+"ab", len(ahead), api.ErrShort)
			wantListError(t, ahead+model(n)+"\x00\x00", len(ahead), api.ErrShort)
			wantListError(t, ahead+"\x01"+model(n)+"ab", len(ahead), api.ErrShort)
		}
	}
}

// P1.4
func TestListExamples(t *testing.T) {
	if s := octets.List("a", ""); s != "\x02\x01a\x00" {
		t.Errorf("%x", s)
	}
	if s := octets.List(); s != "\x00" {
		t.Errorf("%x", s)
	}
	for _, l := range lists() {
		want := model(uint64(len(l)))
		for _, s := range l {
			want += model(uint64(len(s))) + s
		}
		if got := octets.List(l...); got != want {
			t.Errorf("a list of %d texts is laid as %d bytes, not %d", len(l), len(got), len(want))
		}
	}
}

// P1.4: TakeNumber's errors, then TakeText's, text by text.
func TestTakeListErrors(t *testing.T) {
	for _, s := range []string{"", "\x00", "\x01\x01a"} {
		for _, at := range places(len(s)) {
			wantListError(t, s, at, api.ErrArg)
		}
		wantListError(t, s, len(s), api.ErrShort)
	}
	for s, want := range map[string]api.Errno{
		"\xf9\x01":                  api.ErrShort,
		"\xf8\x01\x01a":             api.ErrForm,
		"\x01":                      api.ErrShort,
		"\x02\x01a":                 api.ErrShort,
		"\x01\x02a":                 api.ErrShort,
		"\x01\xf8\x01a":             api.ErrForm,
		"\x02\x01a\xf8":             api.ErrShort,
		"\x02\x01a\xf9\x00\x01b":    api.ErrForm,
		"\x02\xf8\x01a\x05":         api.ErrForm,
		"\x03\x00\x02ab\xf8\x01a":   api.ErrForm,
		"\x03\x00\x09ab\xf8\x01a":   api.ErrShort,
		"\x03\x00\xf8\x00\x09":      api.ErrForm,
		"\xf8\xf8" + "\x00\x00\x00": api.ErrShort,
	} {
		wantListError(t, s, 0, want)
		wantListError(t, "ahead"+s, 5, want)
	}
}

// Rule 4: what is handed in is not changed, its spare room neither, and not kept; what is handed out is new.
func TestListsAreNotShared(t *testing.T) {
	in := append(make([]string, 0, 4), "a", "b", "spare")
	s := octets.List(in[:2]...)
	if !slices.Equal(in, []string{"a", "b", "spare"}) {
		t.Error(in)
	}
	in[0] = "changed"
	one, _, _ := octets.TakeList(s, 0)
	one[0] = "changed"
	two, _, _ := octets.TakeList(s, 0)
	if !slices.Equal(two, []string{"a", "b"}) {
		t.Error(two)
	}
}

// P1.5: what was laid, with anything ahead and behind, is taken as it was.
func TestLaidIsTaken(t *testing.T) {
	for _, ahead := range []string{"", "x", "\xff\xff"} {
		for _, behind := range []string{"", "\x00", "\xff", "abc"} {
			for _, n := range samples() {
				s := octets.Number(n)
				if m, end, err := octets.TakeNumber(ahead+s+behind, len(ahead)); m != n || end != len(ahead+s) || err != api.OK {
					t.Errorf("number %d: %d, %d, %d", n, m, end, int(err))
				}
			}
			for _, text := range texts() {
				s := octets.Text(text)
				if got, end, err := octets.TakeText(ahead+s+behind, len(ahead)); got != text || end != len(ahead+s) || err != api.OK {
					t.Errorf("text of %d bytes: %d bytes, %d, %d", len(text), len(got), end, int(err))
				}
			}
			for _, l := range lists() {
				s := octets.List(l...)
				if got, end, err := octets.TakeList(ahead+s+behind, len(ahead)); !slices.Equal(got, l) || end != len(ahead+s) || err != api.OK {
					t.Errorf("list of %d texts: %d texts, %d, %d", len(l), len(got), end, int(err))
				}
			}
		}
	}
}

// everyText calls visit with each text of up to most of these bytes.
func everyText(alphabet string, most int, visit func(string)) {
	visit("")
	if most == 0 {
		return
	}
	for i := range len(alphabet) {
		everyText(alphabet, most-1, func(rest string) { visit(alphabet[i:i+1] + rest) })
	}
}

// P1.5: what is taken is laid as it stood; rule 2: with an error all else is zero.
func TestTakenIsLaidAsItStood(t *testing.T) {
	numbers, words, many := 0, 0, 0
	everyText("\x00\x01\x02\xf7\xf8\xf9a", 6, func(s string) {
		for at := -1; at <= min(2, len(s)+1); at++ {
			if n, end, err := octets.TakeNumber(s, at); err == api.OK {
				numbers++
				if octets.Number(n) != s[at:end] {
					t.Fatalf("number of %x from %d on", s, at)
				}
			} else if n != 0 || end != 0 {
				t.Fatalf("number of %x from %d on: not zero beside an error", s, at)
			}
			if text, end, err := octets.TakeText(s, at); err == api.OK {
				words++
				if octets.Text(text) != s[at:end] {
					t.Fatalf("text of %x from %d on", s, at)
				}
			} else if text != "" || end != 0 {
				t.Fatalf("text of %x from %d on: not zero beside an error", s, at)
			}
			if l, end, err := octets.TakeList(s, at); err == api.OK {
				many++
				if octets.List(l...) != s[at:end] {
					t.Fatalf("list of %x from %d on", s, at)
				}
			} else if len(l) != 0 || end != 0 {
				t.Fatalf("list of %x from %d on: not zero beside an error", s, at)
			}
		}
	})
	if numbers == 0 || words == 0 || many == 0 {
		t.Error("nothing was taken:", numbers, words, many)
	}
}

// P1.6
func TestNumbersAreInTheirOrder(t *testing.T) {
	for n := range uint64(1 << 17) {
		if octets.Number(n) >= octets.Number(n+1) {
			t.Fatalf("%d and the next one", n)
		}
	}
	l := samples()
	for i, a := range l {
		for _, b := range l[:i] {
			if (a < b) != (octets.Number(a) < octets.Number(b)) || (a == b) != (octets.Number(a) == octets.Number(b)) {
				t.Fatalf("%d and %d: %x and %x", a, b, octets.Number(a), octets.Number(b))
			}
		}
	}
}

// wantNoBeginnings asks that of different texts none begins with another one.
func wantNoBeginnings(t *testing.T, call string, l []string) {
	t.Helper()
	// In the order of texts what begins with a text stands right behind it.
	slices.Sort(l)
	l = slices.Compact(l)
	for i := 1; i < len(l); i++ {
		if strings.HasPrefix(l[i], l[i-1]) {
			t.Fatalf("%s: %x begins with %x", call, l[i], l[i-1])
		}
	}
}

// P1.7
func TestNoneBeginsWithAnother(t *testing.T) {
	var numbers, words, many []string
	for n := range uint64(1 << 17) {
		numbers = append(numbers, octets.Number(n))
	}
	for _, n := range samples() {
		numbers = append(numbers, octets.Number(n))
	}
	everyText("\x00\x01\xf8a", 5, func(s string) { words = append(words, octets.Text(s)) })
	for _, s := range texts() {
		words = append(words, octets.Text(s))
	}
	everyText("\x00\x01a|", 6, func(s string) { many = append(many, octets.List(strings.Split(s, "|")...)) })
	for _, l := range lists() {
		many = append(many, octets.List(l...))
	}
	wantNoBeginnings(t, "Number", numbers)
	wantNoBeginnings(t, "Text", words)
	wantNoBeginnings(t, "List", many)
}
