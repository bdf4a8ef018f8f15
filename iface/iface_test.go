package iface_test

import (
	"encoding/hex"
	"math"
	"math/rand"
	"slices"
	"strconv"
	"strings"
	"testing"

	"pandect/api"
	"pandect/iface"
	"pandect/sample"
	"pandect/shape"
)

// key is a text that only one list of items has.
func key(l []api.Item) string {
	text := ""
	for _, item := range l {
		text += strconv.Itoa(item.Kind) + " " + item.Name + " " + sample.Key(item.Shape) + "\n"
	}
	return text
}

// bytesOf reads bytes as the chapters write them, to the base 16 with blanks between.
func bytesOf(t *testing.T, text string) string {
	t.Helper()
	b, err := hex.DecodeString(strings.ReplaceAll(text, " ", ""))
	if err != nil {
		t.Fatal(err)
	}
	return string(b)
}

// wantNone asks all faces of items that may not be. They are not told, as they may have no end.
func wantNone(t *testing.T, what string, l []api.Item) {
	t.Helper()
	if err := iface.Check(l); err != api.ErrIface {
		t.Errorf("Check of %s: %v", what, err)
	}
	if s, err := iface.Encode(l); s != "" || err != api.ErrIface {
		t.Errorf("Encode of %s: %x, %v", what, s, err)
	}
	if s, err := iface.Show(l); s != "" || err != api.ErrIface {
		t.Errorf("Show of %s: %q, %v", what, s, err)
	}
}

// wantOne asks all faces of an interface that may be, and for what follows from them (P16.5).
func wantOne(t *testing.T, l []api.Item) {
	t.Helper()
	if err := iface.Check(l); err != api.OK {
		t.Fatalf("Check(%.1000v): %v", l, err)
	}
	s, err := iface.Encode(l)
	if want := modelEncode(l); s != want || err != api.OK {
		t.Fatalf("Encode(%.1000v): %x, %v, not %x", l, s, err, want)
	}
	if text, err := iface.Show(l); text != modelShow(l) || err != api.OK {
		t.Fatalf("Show(%.1000v): %q, %v", l, text, err)
	}
	if back, err := iface.Decode(s); key(back) != key(l) || err != api.OK {
		t.Fatalf("Decode of Encode(%.1000v): %.1000v, %v", l, back, err)
	}
}

// wantModel asks all faces of items that have an end, and tells whether they may be.
func wantModel(t *testing.T, l []api.Item) bool {
	t.Helper()
	if !modelCheck(l) {
		wantNone(t, key(l), l)
		// What may not be is not read, either, though it were laid like what may be.
		wantBytes(t, modelEncode(l))
		return false
	}
	wantOne(t, l)
	return true
}

// wantBytes asks for what bytes are read as (P16.2, P16.6), and tells whether that is an interface.
func wantBytes(t *testing.T, s string) bool {
	t.Helper()
	l, ok := modelDecode(s)
	want := api.ErrIface
	if ok {
		want = api.OK
	}
	got, err := iface.Decode(s)
	if err != want || key(got) != key(l) {
		t.Fatalf("Decode(%.500x): %.1000v, %v, not %.1000v, %v", s, got, err, l, want)
	}
	if again, err := iface.Encode(got); ok && (again != s || err != api.OK) {
		t.Fatalf("Encode of Decode(%x): %x, %v", s, again, err)
	}
	return ok
}

// wantNoBytes asks that bytes are no interface's.
func wantNoBytes(t *testing.T, s string) {
	t.Helper()
	if l, err := iface.Decode(s); len(l) != 0 || err != api.ErrIface {
		t.Errorf("Decode(%.200x): %.1000v, %v", s, l, err)
	}
}

// let is an interface of one value.
func let(name string, s api.Shape) []api.Item {
	return []api.Item{{Kind: api.DeLet, Name: name, Shape: s}}
}

// TestExamples: the chapter's examples.
func TestExamples(t *testing.T) {
	l := sample.Face("let f Int")
	if s, err := iface.Encode(l); s != bytesOf(t, "01 03 01 66 01 00 00 00 00") || err != api.OK {
		t.Errorf("%x, %v", s, err)
	}
	if s, err := iface.Show(l); s != "let f: Int\n" || err != api.OK {
		t.Errorf("%q, %v", s, err)
	}
	wantOne(t, l)
}

// TestForms: P16.1, P16.4, the bytes and the text of each kind of item and of type.
func TestForms(t *testing.T) {
	for _, c := range []struct{ lines, bytes, text string }{
		{"", "00", ""},
		{"opaque Key", "01 02 03 4b 65 79", "opaque Key\n"},
		{"type A Bool", "01 01 01 41 02 00 00 00 00", "type A = Bool\n"},
		{"let f Text", "01 03 01 66 03 00 00 00 00", "let f: Text\n"},
		{"let f Any", "01 03 01 66 04 00 00 00 00", "let f: Any\n"},
		{"let f [Int]", "01 03 01 66 05 00 00 00 01 01 00 00 00 00", "let f: [Int]\n"},
		{"let f {}", "01 03 01 66 06 00 00 00 00", "let f: {}\n"},
		{"let f {a: Int, bc: Text}", "01 03 01 66 06 00 00 02 01 61 02 62 63 02 01 00 00 00 00 03 00 00 00 00", "let f: {a: Int, bc: Text}\n"},
		{"let f <>", "01 03 01 66 07 00 00 00 00", "let f: <>\n"},
		{"let f <a: Int | b: {}>", "01 03 01 66 07 00 00 02 01 61 01 62 02 01 00 00 00 00 06 00 00 00 00", "let f: <a: Int | b: {}>\n"},
		{"let f () -> Int", "01 03 01 66 08 00 00 00 01 01 00 00 00 00", "let f: () -> Int\n"},
		{"let f (Int) -> Bool", "01 03 01 66 08 00 00 00 02 01 00 00 00 00 02 00 00 00 00", "let f: (Int) -> Bool\n"},
		{"let f qr/K", "01 03 01 66 0a 02 71 72 01 4b 00 00", "let f: qr/K\n"},
		{"type A {a: {b: [p/K]}};opaque K;let f Int", "03 01 01 41 06 00 00 01 01 61 01 06 00 00 01 01 62 01 05 00 00 00 01 0a 01 70 01 4b 00 00 02 01 4b 03 01 66 01 00 00 00 00", "type A = {a: {b: [p/K]}}\nopaque K\nlet f: Int\n"},
		{"opaque A;opaque B", "02 02 01 41 02 01 42", "opaque A\nopaque B\n"},
	} {
		var l []api.Item
		if c.lines != "" {
			l = sample.Face(strings.Split(c.lines, ";")...)
		}
		want := bytesOf(t, c.bytes)
		if s, err := iface.Encode(l); s != want || err != api.OK {
			t.Errorf("Encode of %s: %x, %v", c.lines, s, err)
		}
		if text, err := iface.Show(l); text != c.text || err != api.OK {
			t.Errorf("Show of %s: %q, %v", c.lines, text, err)
		}
		if back, err := iface.Decode(want); key(back) != key(l) || err != api.OK {
			t.Errorf("Decode of %s: %v, %v", c.bytes, back, err)
		}
		wantOne(t, l)
	}
}

// TestNames: P16.1, which names items of each kind may have.
func TestNames(t *testing.T) {
	most := strings.Repeat("a", 23)
	uppers := []string{"A", "Key", "INT", "Ints", "Inta", "AnyThing", "A_", "A1", "Let", "Module", "A" + most}
	names := []string{"a", "f", "int", "any", "text", "a_", "a1", "aB", "lets", "modul", "a" + most}
	none := []string{"", "_", "_a", "1", "1a", "a b", " a", "a ", "a/b", "q/K", "a.b", "é", "aé", "\xff", "a\x00", "Aé", "A ", "A/B", "a" + most + "a", "A" + most + "a", "A-", "a\n"}
	kept := []string{"module", "import", "pin", "range", "type", "opaque", "let", "in", "export", "fun", "if", "then", "else", "case", "of", "as", "new", "raw", "true", "false"}
	words := []string{"Int", "Bool", "Text", "Any"}
	for _, name := range slices.Concat(uppers, names, none, kept, words) {
		upper, lower := slices.Contains(uppers, name), slices.Contains(names, name)
		for _, c := range []struct {
			kind int
			s    api.Shape
			may  bool
		}{{api.DeType, sample.Int(), upper}, {api.DeOpaque, api.Shape{}, upper}, {api.DeLet, sample.Int(), lower}} {
			if l := []api.Item{{Kind: c.kind, Name: name, Shape: c.s}}; wantModel(t, l) != c.may {
				t.Errorf("%v: not %v", l, c.may)
			}
		}
	}
}

// TestKinds: P16.1, no other kind of item may be.
func TestKinds(t *testing.T) {
	for _, kind := range []int{0, 4, -1, 5, 10, 257, 258, 259, 1<<32 + 1, 1<<32 + 2, 1<<32 + 3, math.MinInt, math.MaxInt, math.MinInt + 2} {
		for _, name := range []string{"A", "a", ""} {
			for _, s := range []api.Shape{{}, sample.Int()} {
				wantNone(t, strconv.Itoa(kind)+name, []api.Item{{Kind: kind, Name: name, Shape: s}})
			}
		}
	}
}

// TestOrder: P16.1, names rise, in the order of texts.
func TestOrder(t *testing.T) {
	for _, c := range []struct {
		lines string
		may   bool
	}{
		{"opaque A;opaque B", true}, {"opaque B;opaque A", false}, {"opaque A;opaque A", false}, {"type A Int;opaque A", false}, {"opaque A;type A Int", false}, {"type A Int;type A Bool", false},
		{"let a Int;let b Int", true}, {"let b Int;let a Int", false}, {"let a Int;let a Int", false}, {"let a Int;let a Bool", false},
		{"opaque Z;let a Int", true}, {"let a Int;opaque Z", false}, {"opaque A;let a Int", true}, {"let a Int;opaque A", false},
		{"let a Int;let aB Int;let a_ Int;let ab Int", true}, {"let a Int;let a_ Int;let aB Int", false}, {"let ab Int;let a_ Int", false}, {"let a Int;let a1 Int;let aB Int", true}, {"let a2 Int;let a10 Int", false}, {"let a10 Int;let a2 Int", true},
		{"opaque A;opaque B;opaque D;opaque C", false}, {"opaque B;opaque A;opaque C;opaque D", false}, {"opaque A;opaque C;opaque B;opaque D", false}, {"opaque A;opaque B;opaque A", false}, {"opaque A;type B Int;let a Int;let c Int;let b Int", false},
	} {
		if wantModel(t, sample.Face(strings.Split(c.lines, ";")...)) != c.may {
			t.Errorf("%s: not %v", c.lines, c.may)
		}
	}
}

// within are types with one more in each place where one may stand, in order.
func within(s api.Shape) []api.Shape {
	i := sample.Int()
	return []api.Shape{s, sample.List(s), sample.Fun(s), sample.Fun(s, i), sample.Fun(i, s), sample.Fun(i, s, i), sample.Record([]string{"a"}, s), sample.Record([]string{"a", "b"}, i, s), sample.Record([]string{"a", "b", "c"}, i, s, i), sample.Variant([]string{"a", "b"}, s, i), sample.Variant([]string{"a", "b"}, i, s), sample.List(sample.List(s)), sample.Record([]string{"a"}, sample.Fun(sample.Variant([]string{"a"}, s), i))}
}

// TestTypes: P16.1, types are closed and in order, at each place within them; those of opaque types are empty.
func TestTypes(t *testing.T) {
	i, b := sample.Int(), api.Shape{Kind: api.ShBool}
	may := []api.Shape{i, sample.Type("own/K"), sample.Type("own/Int"), sample.Type("{a: Int, b: Text}"), sample.Type("<a: Int | b: Text>"), sample.Type("{a: Int, a1: Int, aB: Int, a_: Int, ab: Int, b: Int}")}
	not := []api.Shape{{}, sample.Type("K"), sample.Type("q/K"), sample.Record([]string{"b", "a"}, i, b), sample.Record([]string{"b", "a"}, i, i), sample.Variant([]string{"b", "a"}, i, b), sample.Record([]string{"a", "c", "b"}, i, i, i), sample.Record([]string{"b", "a", "c"}, i, i, i), sample.Variant([]string{"a_", "aB"}, i, i), sample.Record([]string{"a", "a"}, i, i)}
	for n, l := range [][]api.Shape{may, not} {
		for _, one := range l {
			for _, s := range within(one) {
				for _, item := range []api.Item{{Kind: api.DeType, Name: "A", Shape: s}, {Kind: api.DeLet, Name: "f", Shape: s}} {
					if wantModel(t, []api.Item{item}) != (n == 0) {
						t.Errorf("%v: not %v", item, n == 0)
					}
					// It is so, too, of an item that is not the first one, nor the last.
					if wantModel(t, []api.Item{{Kind: api.DeOpaque, Name: "A"}, {Kind: api.DeLet, Name: "a", Shape: i}, {Kind: api.DeLet, Name: "f", Shape: s}, {Kind: api.DeLet, Name: "g", Shape: i}}) != (n == 0) {
						t.Errorf("%v among others: not %v", s, n == 0)
					}
				}
				if wantModel(t, []api.Item{{Kind: api.DeOpaque, Name: "K", Shape: s}}) != (s.Kind == 0) {
					t.Errorf("an opaque type of %v", s)
				}
			}
		}
	}
	for _, s := range []api.Shape{{Kind: -1}, {Of: "q"}, {Name: "K"}, {Names: []string{""}}, {Names: []string{"a"}}, {Parts: []api.Shape{{}}}, {Parts: []api.Shape{i}}} {
		wantNone(t, "an opaque type with something in it", []api.Item{{Kind: api.DeOpaque, Name: "K", Shape: s}})
	}
}

// TestWrong: P16.1, of items whose types may not be, of every kind of fault, some without an end.
func TestWrong(t *testing.T) {
	for n, s := range slices.Concat(sample.Wrong(), sample.Endless()) {
		for kind := api.DeType; kind <= api.DeLet; kind++ {
			for _, name := range []string{"A", "a"} {
				if kind != api.DeOpaque || s.Kind != 0 {
					wantNone(t, "wrong type "+strconv.Itoa(n), []api.Item{{Kind: kind, Name: name, Shape: s}})
				}
				wantNone(t, "list of wrong type "+strconv.Itoa(n), []api.Item{{Kind: kind, Name: name, Shape: sample.List(s)}})
			}
		}
	}
	for _, s := range sample.Wrong() {
		wantModel(t, let("f", s))
		wantModel(t, let("f", sample.List(s)))
	}
}

// numbered are so many values.
func numbered(n int) []api.Item {
	var l []api.Item
	for i := range n {
		l = append(l, api.Item{Kind: api.DeLet, Name: "f" + strconv.Itoa(1000+i), Shape: sample.Int()})
	}
	return l
}

// TestLimits: P16.1, P16.2, what may be at each limit, and what may not one beyond it.
func TestLimits(t *testing.T) {
	for n := range 66 {
		if wantModel(t, numbered(n)) != (n <= 60) {
			t.Errorf("%d items", n)
		}
	}
	wantNone(t, "many items", numbered(5000))
	wantNoBytes(t, modelEncode(numbered(5000)))
	for _, kind := range []int{api.ShRecord, api.ShVariant} {
		for _, n := range []int{246, 247, 248, 249, 255, 256, 257, 398, 399, 400, 401, 3000} {
			if wantModel(t, let("f", sample.Numbered(kind, 1000, n, sample.Int()))) != (n <= 399) {
				t.Errorf("%d names", n)
			}
		}
	}
	for _, n := range []int{1, 247, 248, 398, 399, 400, 401, 3000} {
		if wantModel(t, let("f", sample.Fun(slices.Repeat([]api.Shape{sample.Int()}, n)...))) != (n <= 399) {
			t.Errorf("%d parts of a function", n)
		}
	}
	for _, lists := range []int{0, 1, 38, 39, 40, 41, 200, 398, 399, 400} {
		if wantModel(t, let("f", sample.Within(sample.Int(), lists))) != (lists <= 39) {
			t.Errorf("%d lists", lists)
		}
	}
	// 400 parts in each of 60 types, in records within records: all that may be at once.
	part := sample.Numbered(api.ShRecord, 1000, 20, sample.Numbered(api.ShVariant, 1000, 18, sample.Int()))
	for _, more := range []int{18, 19, 20} {
		whole := sample.Fun(append(slices.Repeat([]api.Shape{sample.Int()}, more), part)...)
		l := numbered(60)
		for i := range l {
			l[i].Shape = whole
		}
		if wantModel(t, l) != (more == 18) || shape.Size(whole) != min(382+more, 401) {
			t.Errorf("%d parts", shape.Size(whole))
		}
	}
}

// TestMany: P16.1 to P16.6 of many interfaces, and of such as have faults, against the model; those with one text are the same.
func TestMany(t *testing.T) {
	pick := sample.Pick(rand.New(rand.NewSource(16)).Intn)
	m := sample.Maker{Pick: pick, Env: sample.World(nil)}
	texts, count := map[string]string{}, map[bool]int{}
	for range 4000 {
		l := m.Face()
		if !wantModel(t, l) {
			t.Fatal(l)
		}
		text, _ := iface.Show(l)
		if other, ok := texts[text]; ok && other != key(l) {
			t.Fatalf("%q is the text of %v, and of %s", text, l, other)
		}
		texts[text] = key(l)
		count[wantModel(t, spoilt(m, l))]++
	}
	if len(texts) < 2000 || count[true] < 300 || count[false] < 1500 {
		t.Error(len(texts), count)
	}
}

// spoilt is an interface in which something is changed, mostly such that it may not be.
func spoilt(m sample.Maker, l []api.Item) []api.Item {
	l = slices.Clone(l)
	i := m.Pick(max(1, len(l)))
	other := api.Item{Kind: m.Pick(5), Name: []string{"A", "b", "Int", "let", ""}[m.Pick(5)], Shape: m.Pick.Any(2)}
	if len(l) == 0 {
		return append(l, other)
	}
	switch m.Pick(8) {
	case 0:
		l[i], l[0] = l[0], l[i]
	case 1:
		l[i].Kind = other.Kind
	case 2:
		l[i].Name = other.Name
	case 3:
		l[i].Shape = other.Shape
	case 4:
		l = slices.Insert(l, i, other)
	case 5:
		l = slices.Insert(l, i, l[i])
	case 6:
		l[i].Shape = m.Pick.Like(l[i].Shape)
	case 7:
		l = slices.Delete(l, i, i+1)
	}
	return l
}
