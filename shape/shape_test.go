package shape_test

import (
	"math"
	"math/rand"
	"slices"
	"strconv"
	"strings"
	"testing"

	"pandect/api"
	"pandect/shape"
)

// right are texts of types that may be; a ! stands ahead of what is opaque.
var right = []string{
	"Int", "Bool", "Text", "Any", "Key", "K", "q/Key", "q/Int", "q/Any", "!q/Key", "!q/Int", "!p/Key", "Ints", "INT", "Record",
	"[Int]", "[[Text]]", "[Key]", "[{}]", "{}", "<>", "{a: Int}", "{a: Int, b: Text}", "{b: Int, a: Text}", "{b: Text, a: Int}", "{a: Text, b: Int}", "<a: Int>", "<a: Int | b: Text>", "<b: Text | a: Int>", "<b: Int | a: Text>",
	"<none: {} | some: Int>", "{a: {b: Int, a: Text}}", "{a: {a: Text, b: Int}}", "{z: <z: Int | a: {y: Key, b: Any}>, c: [<b: Int | a: Int>]}", "{c: [<a: Int | b: Int>], z: <a: {b: Any, y: Key} | z: Int>}",
	"() -> Int", "() -> () -> Int", "(() -> Int) -> Int", "(Int) -> Int", "(Int, Text) -> Bool", "(Text, Int) -> Bool", "(Int, [Text]) -> {a: Int, b: Any}", "(Int, [Text]) -> {b: Any, a: Int}", "(Int) -> (Text) -> Bool", "((Int) -> Text) -> Bool", "({b: Int, a: Int}, <b: Int | a: Int>) -> !q/Key", "[(Int) -> Int]", "{f: (q/Key) -> [Key]}",
	"{ab: Int, a: Text, aB: Bool, a_: Any, a1: Key, b: Int, aa: Int}",
}

// wrong are types that may not be for what stands in themselves alone.
func wrong() []api.Shape {
	i := api.Shape{Kind: api.ShInt}
	return []api.Shape{
		{}, {Kind: 11}, {Kind: -1}, {Kind: 12}, {Kind: 257}, {Kind: 1<<32 + 1}, {Kind: math.MinInt}, {Kind: math.MaxInt},
		{Kind: api.ShInt, Name: "x"}, {Kind: api.ShInt, Of: "q"}, {Kind: api.ShBool, Names: []string{"a"}}, {Kind: api.ShText, Parts: []api.Shape{i}}, {Kind: api.ShAny, Name: "Any"}, {Kind: api.ShInt, Names: []string{""}},
		{Kind: api.ShList}, {Kind: api.ShList, Parts: []api.Shape{i, i}}, {Kind: api.ShList, Name: "K", Parts: []api.Shape{i}}, {Kind: api.ShList, Of: "q", Parts: []api.Shape{i}}, {Kind: api.ShList, Names: []string{"a"}, Parts: []api.Shape{i}},
		{Kind: api.ShRecord, Names: []string{"a"}}, {Kind: api.ShRecord, Parts: []api.Shape{i}}, {Kind: api.ShRecord, Names: []string{"a", "a"}, Parts: []api.Shape{i, i}}, {Kind: api.ShRecord, Names: []string{"a", "b", "a"}, Parts: []api.Shape{i, i, i}}, {Kind: api.ShRecord, Names: []string{"A"}, Parts: []api.Shape{i}}, {Kind: api.ShRecord, Names: []string{""}, Parts: []api.Shape{i}}, {Kind: api.ShRecord, Names: []string{"let"}, Parts: []api.Shape{i}}, {Kind: api.ShRecord, Name: "K"}, {Kind: api.ShRecord, Of: "q"},
		{Kind: api.ShVariant, Names: []string{"a"}}, {Kind: api.ShVariant, Parts: []api.Shape{i}}, {Kind: api.ShVariant, Names: []string{"a", "a"}, Parts: []api.Shape{i, i}}, {Kind: api.ShVariant, Names: []string{"a", "B"}, Parts: []api.Shape{i, i}}, {Kind: api.ShVariant, Names: []string{strings.Repeat("a", 25)}, Parts: []api.Shape{i}}, {Kind: api.ShVariant, Name: "K"}, {Kind: api.ShVariant, Of: "q"},
		{Kind: api.ShFun}, {Kind: api.ShFun, Name: "K", Parts: []api.Shape{i}}, {Kind: api.ShFun, Of: "q", Parts: []api.Shape{i}}, {Kind: api.ShFun, Names: []string{"a"}, Parts: []api.Shape{i, i}},
		{Kind: api.ShName}, {Kind: api.ShName, Name: "Int"}, {Kind: api.ShName, Name: "Bool"}, {Kind: api.ShName, Name: "Text"}, {Kind: api.ShName, Name: "Any"}, {Kind: api.ShName, Name: "k"}, {Kind: api.ShName, Of: "q"}, {Kind: api.ShName, Of: "Q", Name: "K"}, {Kind: api.ShName, Of: "let", Name: "K"}, {Kind: api.ShName, Name: "K", Parts: []api.Shape{i}}, {Kind: api.ShName, Name: "K", Names: []string{"a"}}, {Kind: api.ShName, Name: "K/K"}, {Kind: api.ShName, Name: "q/K"},
		{Kind: api.ShOpaque}, {Kind: api.ShOpaque, Name: "K"}, {Kind: api.ShOpaque, Of: "q"}, {Kind: api.ShOpaque, Of: "Q", Name: "K"}, {Kind: api.ShOpaque, Of: "q", Name: "k"}, {Kind: api.ShOpaque, Of: "of", Name: "K"}, {Kind: api.ShOpaque, Of: "q", Name: "K", Parts: []api.Shape{i}}, {Kind: api.ShOpaque, Of: "q", Name: "K", Names: []string{"a"}},
	}
}

// around are types with one more within, in each place where one may stand.
func around(s api.Shape) []api.Shape {
	i := api.Shape{Kind: api.ShInt}
	return []api.Shape{
		{Kind: api.ShList, Parts: []api.Shape{s}},
		{Kind: api.ShFun, Parts: []api.Shape{s}},
		{Kind: api.ShFun, Parts: []api.Shape{s, i}},
		{Kind: api.ShFun, Parts: []api.Shape{i, s, i}},
		{Kind: api.ShFun, Parts: []api.Shape{i, s}},
		{Kind: api.ShRecord, Names: []string{"b"}, Parts: []api.Shape{s}},
		{Kind: api.ShRecord, Names: []string{"b", "a"}, Parts: []api.Shape{i, s}},
		{Kind: api.ShVariant, Names: []string{"b", "c", "a"}, Parts: []api.Shape{i, s, i}},
		{Kind: api.ShVariant, Names: []string{"b"}, Parts: []api.Shape{s}},
	}
}

// within is a type, so many lists deep.
func within(s api.Shape, lists int) api.Shape {
	for range lists {
		s = api.Shape{Kind: api.ShList, Parts: []api.Shape{s}}
	}
	return s
}

// named are so many names, in no order.
func named(n int) []string {
	l := make([]string, n)
	for i := range l {
		l[i] = "n" + strconv.Itoa(i)
	}
	return l
}

// wide is a type of that kind with so many parts of another one.
func wide(kind, n int, part api.Shape) api.Shape {
	s := api.Shape{Kind: kind}
	for range n {
		s.Parts = append(s.Parts, part)
	}
	if kind == api.ShRecord || kind == api.ShVariant {
		s.Names = named(n)
	}
	return s
}

// anyType makes a type of any kind, of which some names stand more often; of one with a greater number more stands within.
func anyType(r *rand.Rand, deep int) api.Shape {
	kind := 1 + r.Intn(10)
	if deep == 0 && kind > 4 && kind < 9 {
		kind -= 4
	}
	s := api.Shape{Kind: kind}
	switch kind {
	case api.ShList:
		s.Parts = []api.Shape{anyType(r, deep-1)}
	case api.ShRecord, api.ShVariant:
		for _, i := range r.Perm(6)[:r.Intn(5)] {
			s.Names = append(s.Names, []string{"a", "b", "ab", "aB", "a_", "a1"}[i])
			s.Parts = append(s.Parts, anyType(r, deep-1))
		}
	case api.ShFun:
		for range 1 + r.Intn(3) {
			s.Parts = append(s.Parts, anyType(r, deep-1))
		}
	case api.ShName, api.ShOpaque:
		s.Of, s.Name = []string{"", "p", "q"}[r.Intn(3)], []string{"K", "Key", "Keys"}[r.Intn(3)]
		if kind == api.ShOpaque && s.Of == "" {
			s.Of = "r"
		}
	}
	return s
}

// turned is a type whose fields and cases stand in any other order.
func turned(r *rand.Rand, s api.Shape) api.Shape {
	other := api.Shape{Kind: s.Kind, Of: s.Of, Name: s.Name}
	places := r.Perm(len(s.Names))
	for i := range s.Parts {
		if len(s.Names) > 0 {
			i = places[i]
			other.Names = append(other.Names, s.Names[i])
		}
		other.Parts = append(other.Parts, turned(r, s.Parts[i]))
	}
	return other
}

// manyTypes are the types of right, and some of any kind, all of which may be.
func manyTypes(t *testing.T, n int) []api.Shape {
	t.Helper()
	var l []api.Shape
	for _, text := range right {
		l = append(l, of(t, text))
	}
	r := rand.New(rand.NewSource(7))
	for range n {
		if s := anyType(r, 3); modelCheck(s) == api.OK {
			l = append(l, s)
		}
	}
	return l
}

// wantNot asks all faces of a type that may not be.
func wantNot(t *testing.T, s api.Shape, want api.Errno) {
	t.Helper()
	if err := shape.Check(s); err != want {
		t.Errorf("Check(%.200v): error %d, want %d", s, int(err), int(want))
	}
	if text, err := shape.Show(s); text != "" || err != want {
		t.Errorf("Show(%.200v) = %.80q, error %d, want %d", s, text, int(err), int(want))
	}
	i := api.Shape{Kind: api.ShInt}
	if shape.Closed(s) || shape.Same(s, s) || shape.Same(s, i) || shape.Same(i, s) {
		t.Errorf("Closed or Same of %.200v, which may not be", s)
	}
	if sorted := shape.Sort(s); !equal(sorted, s) {
		t.Errorf("Sort(%.200v) = %.200v, which may not be", s, sorted)
	}
}

// wantLike asks all faces of a type of any size that a test can hold, against the model.
func wantLike(t *testing.T, s api.Shape) {
	t.Helper()
	parts, levels := len(modelParts(s)), modelDeep(s)
	if parts > 400 {
		parts, levels = 401, 0
	}
	if size, deep := shape.Size(s), shape.Deep(s); size != parts || deep != levels {
		t.Errorf("Size, Deep of %.200v: %d, %d, want %d, %d", s, size, deep, parts, levels)
	}
	if want := modelCheck(s); want != api.OK {
		wantNot(t, s, want)
		return
	}
	if err := shape.Check(s); err != api.OK {
		t.Errorf("Check(%.200v): error %d", s, int(err))
	}
	open := slices.ContainsFunc(modelParts(s), func(part api.Shape) bool { return part.Kind == api.ShName })
	if shape.Closed(s) == open {
		t.Errorf("Closed(%.200v) = %v", s, !open)
	}
	if sorted, want := shape.Sort(s), modelSort(s); !equal(sorted, want) {
		t.Errorf("Sort(%.200v) = %.200v, want %.200v", s, sorted, want)
	}
	if !shape.Same(s, s) {
		t.Errorf("%.200v is not the Same as itself", s)
	}
}

// TestExamples: the chapter's examples.
func TestExamples(t *testing.T) {
	i, x := api.Shape{Kind: api.ShInt}, api.Shape{Kind: api.ShText}
	record := api.Shape{Kind: api.ShRecord, Names: []string{"a", "b"}, Parts: []api.Shape{i, {Kind: api.ShAny}}}
	fun := api.Shape{Kind: api.ShFun, Parts: []api.Shape{i, {Kind: api.ShList, Parts: []api.Shape{x}}, record}}
	if text, err := shape.Show(fun); text != "(Int, [Text]) -> {a: Int, b: Any}" || err != api.OK {
		t.Error(text, int(err))
	}
	variant := api.Shape{Kind: api.ShVariant, Names: []string{"none", "some"}, Parts: []api.Shape{{Kind: api.ShRecord}, i}}
	if text, err := shape.Show(variant); text != "<none: {} | some: Int>" || err != api.OK {
		t.Error(text, int(err))
	}
	wantNot(t, api.Shape{Kind: api.ShRecord, Names: []string{"a", "a"}, Parts: []api.Shape{i, i}}, api.ErrShape)
}

// TestCheck: P7.1, what may be and what may not, alone and within others.
func TestCheck(t *testing.T) {
	for _, text := range right {
		s := of(t, text)
		if modelCheck(s) != api.OK {
			t.Fatal(text)
		}
		wantLike(t, s)
		for _, other := range around(s) {
			wantLike(t, other)
		}
	}
	for _, s := range wrong() {
		wantNot(t, s, api.ErrShape)
		for _, other := range around(s) {
			wantNot(t, other, api.ErrShape)
			for _, third := range around(other) {
				wantNot(t, third, api.ErrShape)
			}
		}
	}
}

// TestCheckFields: P7.1, all kinds with any fields, against the model.
func TestCheckFields(t *testing.T) {
	i := api.Shape{Kind: api.ShInt}
	long, longest := strings.Repeat("a", 25), strings.Repeat("a", 24)
	texts := []string{"", "q", "Q", "let", "K_1", "k_1", "Int", "Bool", "Text", "Any", "int", "é", "É", "\xff", " ", "a b", "q/K", "_", "1", longest, long, "A" + longest[1:], "A" + longest}
	lists := [][]string{nil, {}, {"a"}, {"A"}, {""}, {"in"}, {"a", "b"}, {"b", "a"}, {"a", "a"}, {"a", "A"}, {"a", ""}, {"", ""}, {longest}, {long}, {"é"}, {"a", "b", "c"}, {"a", "b", "a"}, {"b", "a", "a"}}
	for kind := -1; kind <= 12; kind++ {
		for _, of := range texts {
			for _, name := range texts {
				for _, names := range lists {
					for parts := range 4 {
						wantCheck(t, api.Shape{Kind: kind, Of: of, Name: name, Names: names, Parts: slices.Repeat([]api.Shape{i}, parts)})
					}
				}
			}
		}
	}
}

// wantCheck asks Check of a type, against the model.
func wantCheck(t *testing.T, s api.Shape) {
	t.Helper()
	if err, want := shape.Check(s), modelCheck(s); err != want {
		t.Fatalf("Check(%v): error %d, want %d", s, int(err), int(want))
	}
}

// TestCheckNames: P7.1, the same name far from the first one, and very many names.
func TestCheckNames(t *testing.T) {
	i := api.Shape{Kind: api.ShInt}
	for _, kind := range []int{api.ShRecord, api.ShVariant} {
		s := wide(kind, 399, i)
		wantLike(t, s)
		s.Names[398] = s.Names[0]
		wantNot(t, s, api.ErrShape)
		s.Names[398] = "N"
		wantNot(t, s, api.ErrShape)
		s.Names = named(1 << 17)
		wantNot(t, s, api.ErrShape)
	}
}

// TestBig: P7.1, how many parts a type may have, in whatever form.
func TestBig(t *testing.T) {
	i := api.Shape{Kind: api.ShInt}
	for _, kind := range []int{api.ShFun, api.ShRecord, api.ShVariant} {
		for n := range 410 {
			want := api.OK
			if n == 0 && kind == api.ShFun {
				want = api.ErrShape
			}
			if n > 399 {
				want = api.ErrBig
			}
			s := wide(kind, n, i)
			if err := shape.Check(s); err != want || shape.Size(s) != min(n+1, 401) {
				t.Fatalf("kind %d with %d parts: error %d, Size %d", kind, n, int(err), shape.Size(s))
			}
		}
		for _, n := range []int{1, 398, 399, 400, 401, 5000} {
			wantLike(t, wide(kind, n, i))
		}
		for _, n := range []int{1, 198, 199, 200, 1000} {
			wantLike(t, wide(kind, n, within(i, 1)))
			wantLike(t, wide(kind, n, wide(kind, 1, i)))
		}
		for _, n := range []int{18, 19, 20, 21, 22} {
			wantLike(t, wide(kind, n, wide(kind, n-2, i)))
			wantLike(t, wide(kind, n, wide(kind, n-1, i)))
		}
	}
}

// TestBigAhead: P7.1, ErrBig goes ahead of ErrDeep, and that ahead of ErrShape; parts of what has none are counted.
func TestBigAhead(t *testing.T) {
	none, i := api.Shape{}, api.Shape{Kind: api.ShInt}
	for _, kind := range []int{0, 1, 5, 6, 8, 9, 10, 11} {
		wantNot(t, api.Shape{Kind: kind, Parts: make([]api.Shape, 398)}, api.ErrShape)
		wantNot(t, api.Shape{Kind: kind, Parts: make([]api.Shape, 399)}, api.ErrShape)
		wantNot(t, api.Shape{Kind: kind, Parts: make([]api.Shape, 400)}, api.ErrBig)
	}
	wantNot(t, within(none, 39), api.ErrShape)
	wantNot(t, within(none, 40), api.ErrDeep)
	wantNot(t, within(none, 399), api.ErrDeep)
	wantNot(t, within(none, 400), api.ErrBig)
	wantNot(t, within(wide(api.ShFun, 359, i), 40), api.ErrDeep)
	wantNot(t, within(wide(api.ShFun, 360, i), 40), api.ErrBig)
	wantNot(t, api.Shape{Kind: api.ShFun, Parts: []api.Shape{none, within(i, 39)}}, api.ErrDeep)
	wantNot(t, api.Shape{Kind: api.ShFun, Parts: []api.Shape{none, within(i, 38)}}, api.ErrShape)
	last := wide(api.ShFun, 399, i)
	last.Parts[398] = none
	wantNot(t, last, api.ErrShape)
}

// TestDeep: P7.1, how many levels a type has, and how many it may have.
func TestDeep(t *testing.T) {
	i := api.Shape{Kind: api.ShInt}
	for n := range 405 {
		s, want := within(i, n), n+1
		if want > 400 {
			want = 0
		}
		if deep := shape.Deep(s); deep != want {
			t.Errorf("Deep of %d lists: %d", n, deep)
		}
		wantCheck(t, s)
	}
	for which := range around(i) {
		s := i
		for n := 1; n < 50; n++ {
			if deep := shape.Deep(s); deep != n {
				t.Errorf("Deep of %d levels of %d: %d", n, which, deep)
			}
			wantLike(t, s)
			s = around(s)[which]
		}
	}
	for _, n := range []int{0, 1, 37, 38, 39, 40, 100} {
		for _, m := range []int{0, 1, 38, 39, 40} {
			wantLike(t, api.Shape{Kind: api.ShFun, Parts: []api.Shape{within(i, n), within(i, m)}})
		}
	}
	if shape.Deep(api.Shape{}) != 1 || shape.Deep(wide(api.ShFun, 399, i)) != 2 || shape.Deep(wide(api.ShFun, 400, i)) != 0 {
		t.Error("Deep of one that may not be, and of wide ones")
	}
}

// TestEndless: P7.1 to P7.4, lists that stand in themselves, or far more often than memory could hold.
func TestEndless(t *testing.T) {
	own := api.Shape{Kind: api.ShList, Parts: make([]api.Shape, 1)}
	own.Parts[0] = own
	many := api.Shape{Kind: api.ShInt}
	for range 100 {
		many = api.Shape{Kind: api.ShRecord, Names: []string{"b", "a"}, Parts: []api.Shape{many, many}}
	}
	for _, s := range []api.Shape{own, many, {Kind: api.ShFun, Parts: []api.Shape{{}, many, own}}, {Kind: api.ShFun, Parts: []api.Shape{{}, own, many}}} {
		if shape.Check(s) != api.ErrBig || shape.Size(s) != 401 || shape.Deep(s) != 0 || shape.Closed(s) || shape.Same(s, s) {
			t.Error("an endless type")
		}
		if text, err := shape.Show(s); text != "" || err != api.ErrBig {
			t.Error(len(text), int(err))
		}
		wantAlong(t, s, shape.Sort(s), 200)
	}
}

// wantAlong asks whether two types are the same as far as so many levels, along the last parts, and no list there stands in both.
func wantAlong(t *testing.T, a, b api.Shape, levels int) {
	t.Helper()
	if a.Kind != b.Kind || !slices.Equal(a.Names, b.Names) || len(a.Parts) != len(b.Parts) {
		t.Fatalf("%d levels ahead of the end another type", levels)
	}
	last := len(a.Parts) - 1
	if levels == 0 || last < 0 {
		return
	}
	if &a.Parts[last] == &b.Parts[last] {
		t.Fatalf("%d levels ahead of the end the same list", levels)
	}
	wantAlong(t, a.Parts[last], b.Parts[last], levels-1)
}

// TestClosed: P7.2, names that stand anywhere, and what may not be.
func TestClosed(t *testing.T) {
	for text, want := range map[string]bool{
		"Int": true, "Any": true, "!q/Key": true, "{}": true, "<>": true, "Key": false, "q/Key": false, "q/Int": false, "[Key]": false, "[!q/Key]": true,
		"{a: Int, b: Key}": false, "<a: q/Key | b: Int>": false, "(Key) -> Int": false, "() -> Key": false, "() -> !q/Key": true, "{a: [(<a: {a: [Key]}>) -> Int]}": false, "{a: [(<a: {a: [!q/Key]}>) -> Int]}": true,
	} {
		if shape.Closed(of(t, text)) != want {
			t.Errorf("Closed(%s) = %v", text, !want)
		}
	}
	i := api.Shape{Kind: api.ShInt}
	if !shape.Closed(within(i, 39)) || shape.Closed(within(i, 40)) || !shape.Closed(wide(api.ShFun, 399, i)) || shape.Closed(wide(api.ShFun, 400, i)) {
		t.Error("Closed of what is too great")
	}
	for _, s := range wrong() {
		if shape.Closed(s) {
			t.Errorf("Closed(%v)", s)
		}
	}
}

// TestSort: P7.2, names in the order of texts, each with its part, wherever they stand, and nothing else in another order.
func TestSort(t *testing.T) {
	for text, want := range map[string]string{
		"{b: Int, a: Text}":                                                 "{a: Text, b: Int}",
		"<b: Int | a: Text>":                                                "<a: Text | b: Int>",
		"{c: Int, a: Text, b: Bool}":                                        "{a: Text, b: Bool, c: Int}",
		"{b: {b: Int, a: Text}, a: [{d: Int, c: Text}]}":                    "{a: [{c: Text, d: Int}], b: {a: Text, b: Int}}",
		"({b: Int, a: Int}, Text, Bool) -> <b: Int | a: Int>":               "({a: Int, b: Int}, Text, Bool) -> <a: Int | b: Int>",
		"(Text, Int) -> Bool":                                               "(Text, Int) -> Bool",
		"{ab: Int, a: Text, aB: Bool, a_: Any, a1: Key, b: Int, aa: [Int]}": "{a: Text, a1: Key, aB: Bool, a_: Any, aa: [Int], ab: Int, b: Int}",
		"{n10: Int, n9: Text, n1: Bool, n: Any}":                            "{n: Any, n1: Bool, n10: Int, n9: Text}",
		"Key":                                                               "Key", "!q/Key": "!q/Key", "q/Key": "q/Key", "{}": "{}", "<>": "<>",
	} {
		if sorted := shape.Sort(of(t, text)); !equal(sorted, of(t, want)) {
			t.Errorf("Sort(%s) = %v, want %s", text, sorted, want)
		}
	}
	for _, s := range manyTypes(t, 3000) {
		wantLike(t, s)
	}
	// Behind ErrDeep, ErrBig and ErrShape nothing is sorted, however right the record is.
	b := of(t, "{b: Int, a: Text}")
	for _, s := range []api.Shape{within(b, 39), wide(api.ShFun, 200, b), {Kind: api.ShFun, Parts: []api.Shape{b, {}}}, {Kind: api.ShInt, Parts: []api.Shape{b}}} {
		if shape.Check(s) == api.OK || !equal(shape.Sort(s), s) {
			t.Errorf("Sort(%.200v)", s)
		}
	}
	if s := within(b, 38); equal(shape.Sort(s), s) {
		t.Error("Sort of one with 40 levels")
	}
}

// lists hands out all lists of a type.
func lists(s *api.Shape, names func([]string), parts func([]api.Shape)) {
	names(s.Names)
	parts(s.Parts)
	for i := range s.Parts {
		lists(&s.Parts[i], names, parts)
	}
}

// flat are the fields of all parts of a type one by one, with what stands in the spare room of its lists.
func flat(s api.Shape) []string {
	own := func(part api.Shape) []string {
		return []string{strconv.Itoa(part.Kind), part.Of, part.Name, strconv.Itoa(len(part.Names)), strconv.Itoa(len(part.Parts))}
	}
	var l []string
	for _, part := range modelParts(s) {
		l = append(append(l, own(part)...), part.Names[:cap(part.Names)]...)
		for _, spare := range part.Parts[len(part.Parts):cap(part.Parts)] {
			l = append(l, own(spare)...)
		}
	}
	return l
}

// wantNew asks whether Sort tells new memory, in which no list shares any with another one, and leaves what it was handed as it was.
func wantNew(t *testing.T, s api.Shape) {
	t.Helper()
	firstNames, firstParts := map[*string]bool{}, map[*api.Shape]bool{}
	takeNames := func(fresh bool) func([]string) {
		return func(l []string) {
			for i := range l[:cap(l)] {
				at := &l[:cap(l)][i]
				if fresh && firstNames[at] {
					t.Fatalf("a list of names of Sort(%.200v) is not new", s)
				}
				firstNames[at] = true
			}
		}
	}
	takeParts := func(fresh bool) func([]api.Shape) {
		return func(l []api.Shape) {
			for i := range l[:cap(l)] {
				at := &l[:cap(l)][i]
				if fresh && firstParts[at] {
					t.Fatalf("a list of parts of Sort(%.200v) is not new", s)
				}
				firstParts[at] = true
			}
		}
	}
	before := flat(s)
	lists(&s, takeNames(false), takeParts(false))
	sorted := shape.Sort(s)
	shape.Check(s)
	shape.Same(s, sorted)
	shape.Show(s)
	if !slices.Equal(flat(s), before) {
		t.Fatalf("%.200v was changed", s)
	}
	lists(&sorted, takeNames(true), takeParts(true))
}

// TestSortNew: rule 4, of types that may be and of such that may not.
func TestSortNew(t *testing.T) {
	spare := of(t, "{c: {b: Int, a: Text}, b: {b: Int, a: Text}}")
	spare.Names = append(make([]string, 0, 8), spare.Names...)
	spare.Parts = append(make([]api.Shape, 0, 8), spare.Parts...)
	spare.Names[:8][5], spare.Parts[:8][5] = "z", api.Shape{Kind: 7, Name: "z"}
	all := append(manyTypes(t, 300), spare)
	for _, s := range wrong() {
		all = append(all, s, api.Shape{Kind: api.ShFun, Parts: []api.Shape{s, spare, s}})
	}
	for _, s := range all {
		wantNew(t, s)
		wantNew(t, api.Shape{Kind: api.ShFun, Parts: []api.Shape{s, s}})
		wantNew(t, wide(api.ShRecord, 3, within(s, 1)))
	}
	wantNew(t, within(spare, 60))
	wantNew(t, wide(api.ShFun, 2000, spare))
	wantNew(t, wide(api.ShFun, 500, api.Shape{}))
}

// TestSortGreat: P7.2, types that are far too great are told as they are, in new memory, also where one list stands in them again and again.
func TestSortGreat(t *testing.T) {
	i := api.Shape{Kind: api.ShInt}
	flat := wide(api.ShFun, 1<<17, i)
	tree := api.Shape{Kind: api.ShFun}
	for range 1 << 10 {
		tree.Parts = append(tree.Parts, wide(api.ShRecord, 100, i))
	}
	shared := i
	for range 16 {
		shared = api.Shape{Kind: api.ShRecord, Names: []string{"b", "a"}, Parts: []api.Shape{shared, shared}}
	}
	for _, s := range []api.Shape{flat, tree, within(i, 1<<16), within(tree, 3), shared} {
		wantNew(t, s)
		if !equal(shape.Sort(s), s) {
			t.Error("Sort of a great type")
		}
		if shape.Check(s) != api.ErrBig || shape.Size(s) != 401 || shape.Deep(s) != 0 {
			t.Error("Check of a great type")
		}
	}
	// Lists of other lengths that begin at one place are other lists.
	pair := api.Shape{Kind: api.ShFun, Parts: []api.Shape{{Kind: api.ShFun, Parts: flat.Parts[:1<<16]}, flat, {Kind: api.ShList, Parts: flat.Parts[:1]}}}
	if sorted := shape.Sort(pair); !equal(sorted, pair) || &sorted.Parts[1].Parts[0] == &flat.Parts[0] {
		t.Error("Sort of lists that begin at one place")
	}
}

// TestSame: P7.3, what is the same, what is not, and what may not be.
func TestSame(t *testing.T) {
	all := manyTypes(t, 150)
	for _, a := range all {
		for _, b := range all {
			if same, want := shape.Same(a, b), equal(modelSort(a), modelSort(b)); same != want {
				t.Fatalf("Same(%v, %v) = %v", a, b, same)
			}
		}
	}
	for _, pair := range [][2]string{{"Int", "Bool"}, {"Int", "Any"}, {"Key", "q/Key"}, {"q/Key", "!q/Key"}, {"q/Key", "p/Key"}, {"!q/Key", "!p/Key"}, {"Key", "Keys"}, {"{}", "<>"}, {"{a: Int}", "<a: Int>"}, {"{a: Int}", "{b: Int}"}, {"{a: Int}", "{a: Text}"}, {"{a: Int}", "{a: Int, b: Int}"}, {"{a: Int, b: Text}", "{a: Text, b: Int}"}, {"(Int, Text) -> Int", "(Text, Int) -> Int"}, {"() -> Int", "[Int]"}, {"(Int) -> Int", "() -> Int"}, {"{a: {b: Int}}", "{a: {b: Text}}"}} {
		if a, b := of(t, pair[0]), of(t, pair[1]); shape.Same(a, b) || shape.Same(b, a) {
			t.Errorf("Same of %v", pair)
		}
	}
	for _, s := range wrong() {
		for _, text := range right[:30] {
			if a := of(t, text); shape.Same(a, s) || shape.Same(s, a) {
				t.Errorf("Same of %s and %v", text, s)
			}
		}
		if shape.Same(s, s) {
			t.Errorf("Same of %v, twice", s)
		}
	}
}

// TestSameEmpty: rule 3, nil or empty is the same.
func TestSameEmpty(t *testing.T) {
	for kind := api.ShInt; kind <= api.ShOpaque; kind++ {
		a := api.Shape{Kind: kind}
		if kind >= api.ShName {
			a.Of, a.Name = "q", "K"
		}
		b := a
		b.Names, b.Parts = []string{}, []api.Shape{}
		if may := kind != api.ShList && kind != api.ShFun; shape.Same(a, b) != may || shape.Same(b, a) != may || shape.Check(a) != shape.Check(b) {
			t.Errorf("kind %d", kind)
		}
	}
}

// TestShow: P7.4, the text of each kind of type.
func TestShow(t *testing.T) {
	for _, text := range right {
		s := of(t, text)
		if got, err := shape.Show(s); got != strings.ReplaceAll(text, "!", "") || err != api.OK {
			t.Errorf("Show(%v) = %q, error %d, want %q", s, got, int(err), text)
		}
	}
	// The texts of types are read again as they are, but that what is opaque is read as a name.
	for _, s := range manyTypes(t, 3000) {
		text, err := shape.Show(s)
		if err != api.OK || !equal(of(t, text), unveiled(s)) {
			t.Fatalf("Show(%v) = %q, error %d", s, text, int(err))
		}
		if want := spaced(text); text != want {
			t.Fatalf("Show(%v) = %q, want %q", s, text, want)
		}
	}
	i := api.Shape{Kind: api.ShInt}
	if text, err := shape.Show(wide(api.ShFun, 399, i)); text != "("+strings.Repeat("Int, ", 397)+"Int) -> Int" || err != api.OK {
		t.Error(len(text), int(err))
	}
	if text, err := shape.Show(within(i, 39)); text != strings.Repeat("[", 39)+"Int"+strings.Repeat("]", 39) || err != api.OK {
		t.Error(text, int(err))
	}
}

// unveiled is a type with names in the place of what is opaque.
func unveiled(s api.Shape) api.Shape {
	if s.Kind == api.ShOpaque {
		s.Kind = api.ShName
	}
	s.Parts = slices.Clone(s.Parts)
	for i, part := range s.Parts {
		s.Parts[i] = unveiled(part)
	}
	return s
}

// spaced is a type's text with just the blanks that the chapter names.
func spaced(text string) string {
	text = strings.ReplaceAll(text, " ", "")
	return strings.NewReplacer(",", ", ", ":", ": ", "->", " -> ", "|", " | ").Replace(text)
}

// TestTurned: P7.5, fields and cases that stand in any other order.
func TestTurned(t *testing.T) {
	r := rand.New(rand.NewSource(5))
	for _, s := range manyTypes(t, 2000) {
		want := shape.Sort(s)
		for range 4 {
			other := turned(r, s)
			if !shape.Same(s, other) || !shape.Same(other, s) || !equal(shape.Sort(other), want) {
				t.Fatalf("%v and %v", s, other)
			}
		}
	}
	// Names that change places without their parts make another type.
	for _, text := range []string{"{a: Int, b: Text}", "<a: Int | b: Text>", "{a: [Int], b: [Text], c: Any}"} {
		s, other := of(t, text), of(t, text)
		other.Names[0], other.Names[1] = other.Names[1], other.Names[0]
		if shape.Same(s, other) {
			t.Error(text)
		}
	}
}

// TestOrder: P7.6, Same is an equivalence; Sort of Sort is the same, as great, and Same as the type.
func TestOrder(t *testing.T) {
	all := manyTypes(t, 400)
	r := rand.New(rand.NewSource(3))
	for _, s := range all[:100] {
		all = append(all, turned(r, s))
	}
	for _, a := range all {
		sorted := shape.Sort(a)
		if !equal(shape.Sort(sorted), sorted) || !shape.Same(sorted, a) || !shape.Same(a, sorted) || shape.Check(sorted) != api.OK {
			t.Fatalf("Sort(%v) = %v", a, sorted)
		}
		if shape.Size(sorted) != shape.Size(a) || shape.Deep(sorted) != shape.Deep(a) || shape.Closed(sorted) != shape.Closed(a) {
			t.Fatalf("Sort(%v) is another size", a)
		}
	}
	for _, a := range all[:60] {
		for _, b := range all {
			if shape.Same(a, b) != shape.Same(b, a) {
				t.Fatalf("Same of %v and %v", a, b)
			}
			if !shape.Same(a, b) {
				continue
			}
			for _, c := range all {
				if shape.Same(b, c) != shape.Same(a, c) {
					t.Fatalf("Same of %v, %v and %v", a, b, c)
				}
			}
		}
	}
}
