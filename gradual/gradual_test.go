package gradual_test

import (
	"math/rand"
	"reflect"
	"slices"
	"strings"
	"testing"

	"pandect/api"
	"pandect/fresh"
	"pandect/gradual"
	"pandect/sample"
	"pandect/shape"
	"pandect/subtype"
)

// call asks Between or Beside.
type call func(a, b api.Shape) (api.Shape, bool)

// want asks a call of two types for an answer, for none unless ok.
func want(t *testing.T, of call, a, b, answer api.Shape, ok bool) {
	t.Helper()
	if !ok {
		answer = api.Shape{}
	}
	if s, got := of(a, b); got != ok || sample.Key(s) != sample.Key(answer) {
		t.Errorf("of %.200v and %.200v: %.200v, %v, not %.200v, %v", a, b, s, got, answer, ok)
	}
}

// wantAll asks everything of two types that may be, against the models and what follows from the chapter's words. It tells whether the first is near the second.
func wantAll(t *testing.T, a, b api.Shape) bool {
	t.Helper()
	near, alike := modelNear(a, b), modelAlike(a, b)
	if gradual.Near(a, b) != near || gradual.Alike(a, b) != alike || gradual.Alike(b, a) != alike {
		t.Fatalf("Near, Alike of %v and %v: not %v, %v", a, b, near, alike)
	}
	if plain(a) != gradual.Plain(a) || !gradual.Alike(a, a) || !gradual.Near(a, a) {
		t.Fatalf("%v by itself", a)
	}
	if below := subtype.Below(a, b); below && !near || plain(a) && plain(b) && (near != below || alike != shape.Same(a, b)) {
		t.Fatalf("Below of %v and %v is %v, Near %v, Alike %v", a, b, below, near, alike)
	}
	if !near {
		want(t, gradual.Between, a, b, api.Shape{}, false)
		want(t, gradual.Beside, a, b, api.Shape{}, false)
		return false
	}
	u, v := modelBetween(a, b), modelBeside(a, b)
	want(t, gradual.Between, a, b, u, shape.Size(u) <= 400)
	want(t, gradual.Beside, a, b, v, shape.Size(v) <= 400)
	if shape.Size(u) <= 400 && !(subtype.Below(a, u) && gradual.Alike(u, b)) {
		t.Fatalf("Between of %v and %v: %v", a, b, u)
	}
	if shape.Size(v) <= 400 && !(gradual.Alike(v, a) && subtype.Below(v, b)) {
		t.Fatalf("Beside of %v and %v: %v", a, b, v)
	}
	return true
}

// wantNone asks everything of two types of which one may not be.
func wantNone(t *testing.T, a, b api.Shape) {
	t.Helper()
	for range 2 {
		if gradual.Near(a, b) || gradual.Alike(a, b) {
			t.Error("a type that may not be is near, or alike to, another one")
		}
		for _, of := range []call{gradual.Between, gradual.Beside} {
			if s, ok := of(a, b); ok || s.Kind != 0 || s.Of+s.Name != "" || len(s.Names)+len(s.Parts) != 0 {
				t.Error("something is told of a type that may not be")
			}
		}
		a, b = b, a
	}
}

// TestExamples: the chapter's example.
func TestExamples(t *testing.T) {
	a, b := sample.Type("{a: Any, b: Int}"), sample.Type("{a: Text}")
	if !gradual.Near(a, b) || gradual.Near(b, a) {
		t.Error("Near of records")
	}
	want(t, gradual.Between, a, b, sample.Type("{a: Any}"), true)
	i, any, text := sample.Type("Int"), sample.Type("Any"), sample.Type("Text")
	if !gradual.Near(i, any) || !gradual.Near(any, text) || gradual.Near(i, text) {
		t.Error("Near goes through Any")
	}
}

// TestPlain: P13.1, Any at each place of a type.
func TestPlain(t *testing.T) {
	for _, text := range []string{"Int", "Bool", "Text", "K", "q/K", "own/K", "q/Any", "[Int]", "{}", "<>", "{a: Int}", "<a: Int>", "() -> Int", "(Int, Text) -> Int", "{a: {b: [Int]}, c: (K) -> <d: Bool>}"} {
		if !gradual.Plain(sample.Type(text)) {
			t.Errorf("Plain(%s) = false", text)
		}
	}
	for _, text := range []string{"Any", "[Any]", "{a: Any}", "{a: Int, b: Any}", "<a: Any>", "<a: Any | b: Int>", "() -> Any", "(Any) -> Int", "(Int, Any) -> Int", "{a: {b: [Any]}, c: (K) -> <d: Bool>}", "{a: {b: [Int]}, c: (Any) -> <d: Bool>}", "{a: {b: [Int]}, c: (K) -> <d: Any>}"} {
		if gradual.Plain(sample.Type(text)) {
			t.Errorf("Plain(%s) = true", text)
		}
	}
	deepest, any := sample.Within(sample.Int(), 39), api.Shape{Kind: api.ShAny}
	if !gradual.Plain(deepest) || gradual.Plain(sample.List(deepest)) || gradual.Plain(sample.Within(any, 39)) {
		t.Error("Plain of many levels")
	}
	if !gradual.Plain(sample.Numbered(api.ShRecord, 1000, 399, sample.Int())) || gradual.Plain(sample.Numbered(api.ShRecord, 1000, 400, sample.Int())) {
		t.Error("Plain of many parts")
	}
}

// TestNear: P13.1, P13.2, each line of the words and of the table: of two types, a sign (= alike, and so near both ways, < near, > the other way round, | none), what is between them and what is beside.
func TestNear(t *testing.T) {
	for _, c := range [][5]string{
		{"Any", "=", "Any", "Any", "Any"}, {"Int", "=", "Int", "Int", "Int"}, {"Bool", "=", "Bool", "Bool", "Bool"}, {"Text", "=", "Text", "Text", "Text"}, {"K", "=", "K", "K", "K"}, {"q/K", "=", "q/K", "q/K", "q/K"}, {"own/K", "=", "own/K", "own/K", "own/K"},
		{"Int", "|", "Bool"}, {"Int", "|", "Text"}, {"Bool", "|", "Text"}, {"K", "|", "L"}, {"q/K", "|", "q/L"}, {"q/K", "|", "p/K"}, {"q/K", "|", "K"}, {"own/K", "|", "own/L"}, {"own/K", "|", "K"}, {"Int", "|", "K"}, {"Int", "|", "own/K"}, {"{}", "|", "<>"}, {"{a: Any}", "|", "<a: Any>"}, {"[Any]", "|", "{}"}, {"() -> Any", "|", "[Any]"}, {"() -> Any", "|", "Int"},
		{"Any", "=", "Int", "Any", "Int"}, {"Any", "=", "Bool", "Any", "Bool"}, {"Any", "=", "Text", "Any", "Text"}, {"Any", "=", "K", "Any", "K"}, {"Any", "=", "own/K", "Any", "own/K"}, {"Any", "=", "[Int]", "Any", "[Int]"}, {"Any", "=", "{b: Int, a: Int}", "Any", "{a: Int, b: Int}"}, {"Any", "=", "<b: Int | a: Int>", "Any", "<a: Int | b: Int>"}, {"Any", "=", "({b: Int, a: Int}) -> Int", "Any", "({a: Int, b: Int}) -> Int"},
		{"Int", "=", "Any", "Int", "Any"}, {"own/K", "=", "Any", "own/K", "Any"}, {"[Int]", "=", "Any", "[Int]", "Any"}, {"{b: Int, a: Int}", "=", "Any", "{a: Int, b: Int}", "Any"}, {"<b: Int | a: Int>", "=", "Any", "<a: Int | b: Int>", "Any"}, {"(Int) -> {b: Int, a: Int}", "=", "Any", "(Int) -> {a: Int, b: Int}", "Any"},
		{"[Int]", "=", "[Int]", "[Int]", "[Int]"}, {"[Int]", "|", "[Text]"}, {"[Int]", "=", "[Any]", "[Int]", "[Any]"}, {"[Any]", "=", "[Int]", "[Any]", "[Int]"}, {"[{a: Int, b: Any}]", "<", "[{b: Text}]", "[{b: Any}]", "[{a: Int, b: Text}]"},
		{"{}", "=", "{}", "{}", "{}"}, {"{b: Int, a: Text}", "=", "{a: Text, b: Int}", "{a: Text, b: Int}", "{a: Text, b: Int}"}, {"{a: Int}", "<", "{}", "{}", "{a: Int}"}, {"{a: Any}", "<", "{}", "{}", "{a: Any}"}, {"{a: Int}", "|", "{b: Any}"}, {"{a: Any, b: Int}", "|", "{a: Int, c: Int}"}, {"{a: Any, b: Int}", "|", "{a: Int, b: Text}"}, {"{b: Any, a: Int}", "=", "{b: Int, a: Any}", "{a: Int, b: Any}", "{a: Any, b: Int}"},
		{"{c: {z: Int, y: Any}, b: Any, a: Int}", "<", "{c: {y: Int}, a: Any}", "{a: Int, c: {y: Any}}", "{a: Any, b: Any, c: {y: Int, z: Int}}"}, {"{a: {b: Int}, c: {}}", "|", "{a: {}, c: {b: Any}}"},
		{"<>", "=", "<>", "<>", "<>"}, {"<b: Int | a: Text>", "=", "<a: Text | b: Int>", "<a: Text | b: Int>", "<a: Text | b: Int>"}, {"<>", "<", "<a: Int>", "<a: Int>", "<>"}, {"<>", "<", "<a: Any>", "<a: Any>", "<>"}, {"<a: Int>", "|", "<b: Any>"}, {"<a: Any | b: Int>", "|", "<a: Int | c: Int>"}, {"<a: Any | b: Int>", "|", "<a: Int | b: Text>"}, {"<b: Any | a: Int>", "=", "<b: Int | a: Any>", "<a: Int | b: Any>", "<a: Any | b: Int>"},
		{"<c: <y: Any> | a: Int>", "<", "<c: <z: Int | y: Int> | b: Any | a: Any>", "<a: Int | b: Any | c: <y: Any | z: Int>>", "<a: Any | c: <y: Int>>"}, {"<a: <b: Int> | c: <>>", "|", "<a: <> | c: <b: Any>>"},
		{"() -> Int", "=", "() -> Int", "() -> Int", "() -> Int"}, {"() -> Int", "|", "() -> Text"}, {"() -> Any", "|", "(Any) -> Any"}, {"(Any, Any) -> Any", "|", "(Any) -> Any"}, {"() -> Any", "=", "() -> Int", "() -> Any", "() -> Int"}, {"() -> Int", "=", "() -> Any", "() -> Int", "() -> Any"},
		{"(Any) -> Int", "=", "(Int) -> Int", "(Any) -> Int", "(Int) -> Int"}, {"(Int) -> Int", "=", "(Any) -> Int", "(Int) -> Int", "(Any) -> Int"}, {"(Int) -> Int", "|", "(Text) -> Int"}, {"(Int, Text) -> Any", "|", "(Text, Int) -> Any"}, {"(Int, Any) -> Any", "=", "(Any, Text) -> K", "(Int, Any) -> Any", "(Any, Text) -> K"},
		{"({}) -> Any", "<", "({a: Any}) -> Int", "({a: Any}) -> Any", "({}) -> Int"}, {"({a: Any}) -> {b: Int}", "<", "({a: Int, c: Any}) -> {}", "({a: Any, c: Any}) -> {}", "({a: Int}) -> {b: Int}"}, {"(<a: Any | b: Int>) -> Int", "<", "(<a: Int>) -> Any", "(<a: Any>) -> Int", "(<a: Int | b: Int>) -> Any"}, {"({}) -> {}", "|", "({a: Any}) -> {a: Any}"},
		{"({}, {a: Any}) -> Int", "<", "({b: K}, {a: Int}) -> Int", "({b: K}, {a: Any}) -> Int", "({}, {a: Int}) -> Int"}, {"(({a: Int}) -> Any) -> Int", "<", "(({}) -> K) -> Int", "(({}) -> Any) -> Int", "(({a: Int}) -> K) -> Int"}, {"(({}) -> Int) -> Int", ">", "(({a: Any}) -> Int) -> Int"},
		{"{a: {}, b: Any}", "<", "{a: Any}", "{a: {}}", "{a: Any, b: Any}"},
	} {
		wantPair(t, sample.Type(c[0]), sample.Type(c[2]), c[1])
		if c[3] != "" {
			want(t, gradual.Between, sample.Type(c[0]), sample.Type(c[2]), sample.Type(c[3]), true)
			want(t, gradual.Beside, sample.Type(c[0]), sample.Type(c[2]), sample.Type(c[4]), true)
		}
	}
}

// wantPair asks everything of two types both ways, for a sign of TestNear.
func wantPair(t *testing.T, a, b api.Shape, sign string) {
	t.Helper()
	ab, ba := wantAll(t, a, b), wantAll(t, b, a)
	if gradual.Alike(a, b) != (ab && ba) {
		t.Errorf("Alike of %v and %v, which are near: %v, %v", a, b, ab, ba)
	}
	got := "|"
	switch {
	case ab && ba:
		got = "="
	case ab:
		got = "<"
	case ba:
		got = ">"
	}
	if got != sign {
		t.Errorf("%v %s %v", a, got, b)
	}
}

// TestAll: P13.1 to P13.5 of all pairs out of a world of types, in which a type is near another one, if it is below one that is alike to it, and if it is alike to one that is below it.
func TestAll(t *testing.T) {
	var world []api.Shape
	leaves := []string{"Int", "Any", "{}", "<>"}
	for _, a := range leaves {
		world = append(world, sample.Type(a))
		for _, around := range []string{"[X]", "{a: X}", "<a: X>", "() -> X", "(X) -> Int", "(X) -> Any"} {
			world = append(world, within(around, a))
		}
		for _, b := range leaves {
			world = append(world, sample.Record([]string{"b", "a"}, sample.Type(a), sample.Type(b)), sample.Variant([]string{"a", "b"}, sample.Type(a), sample.Type(b)), within("({a: X}) -> Int", a), within("([{a: X}]) -> Int", a), sample.Fun(sample.Type(a), sample.Type(b), sample.Int()))
		}
	}
	near, below, alike := relation(world, func(a, b api.Shape) bool { return wantAll(t, a, b) }), relation(world, subtype.Below), relation(world, gradual.Alike)
	for i, a := range world {
		for j, b := range world {
			for k, c := range world {
				if (below[i][k] && alike[k][j] || alike[i][k] && below[k][j]) && !near[i][j] {
					t.Fatalf("%v is not near %v, but by %v", a, b, c)
				}
				if near[i][j] && (below[k][i] && !near[k][j] || below[j][k] && !near[i][k]) {
					t.Fatalf("%v is near %v, which does not go on to %v", a, b, c)
				}
			}
		}
	}
}

// relation tells for each two of some types whether something is so of them.
func relation(l []api.Shape, is func(a, b api.Shape) bool) [][]bool {
	all := make([][]bool, len(l))
	for i, a := range l {
		for _, b := range l {
			all[i] = append(all[i], is(a, b))
		}
	}
	return all
}

// within is the type of a text with a part in the place of X.
func within(text, part string) api.Shape { return sample.Type(strings.Replace(text, "X", part, 1)) }

// TestMany: P13.1 to P13.5 of many types that are like each other.
func TestMany(t *testing.T) {
	pick := sample.Pick(rand.New(rand.NewSource(13)).Intn)
	nears, moves := 0, 0
	for range 6000 {
		s := pick.Any(1 + pick(4))
		l := []api.Shape{unknown(pick, s, 12), unknown(pick, pick.Like(s), 12), unknown(pick, pick.Like(s), 24)}
		if slices.ContainsFunc(l, func(s api.Shape) bool { return shape.Check(s) != api.OK }) {
			continue
		}
		wantAll(t, l[0], l[2])
		wantAll(t, s, l[2])
		if wantAll(t, l[0], l[1]) {
			nears++
			u, _ := gradual.Between(l[0], l[1])
			v, _ := gradual.Beside(l[0], l[1])
			join, _ := subtype.Join(l[1], pick.Like(l[1]))
			meet, _ := subtype.Meet(l[0], pick.Like(l[0]))
			moves += wantMoves(t, l[0], l[1], append(l, u, v, join, meet))
		}
	}
	if nears < 1500 || moves < 4000 {
		t.Error("too few", nears, moves)
	}
}

// wantMoves asks whether a type that is near another one is near all that the other one is below, and those below it near the other one; whether it is near what is alike to something above it. It tells how many were.
func wantMoves(t *testing.T, a, b api.Shape, l []api.Shape) int {
	t.Helper()
	moves := 0
	for _, c := range l {
		if subtype.Below(c, a) {
			moves++
			if !gradual.Near(c, b) {
				t.Fatalf("%v is below %v, but not near %v", c, a, b)
			}
		}
		if subtype.Below(b, c) {
			moves++
			if !gradual.Near(a, c) {
				t.Fatalf("%v is near %v, but not %v above it", a, b, c)
			}
		}
		for _, d := range l {
			if subtype.Below(a, c) && gradual.Alike(c, d) && !gradual.Near(a, d) {
				t.Fatalf("%v is below %v, but not near %v", a, c, d)
			}
		}
	}
	return moves
}

// TestSize: P13.2, what is between two types, or beside them, has as many parts as may be, or one more, wherever in it the two are.
func TestSize(t *testing.T) {
	i, any := sample.Int(), api.Shape{Kind: api.ShAny}
	turn := func(s api.Shape) api.Shape { return sample.Fun(s, i) }
	for _, c := range []struct {
		kind, more int
		of         call
		around     func(api.Shape) api.Shape
	}{
		{api.ShVariant, 0, gradual.Between, func(s api.Shape) api.Shape { return s }}, {api.ShVariant, 1, gradual.Between, sample.List}, {api.ShVariant, 1, gradual.Between, func(s api.Shape) api.Shape { return sample.Fun(s) }},
		{api.ShVariant, 1, gradual.Between, func(s api.Shape) api.Shape { return sample.Record([]string{"a"}, s) }}, {api.ShVariant, 2, gradual.Between, func(s api.Shape) api.Shape { return sample.Variant([]string{"b", "a"}, i, s) }}, {api.ShRecord, 2, gradual.Between, turn}, {api.ShVariant, 4, gradual.Between, func(s api.Shape) api.Shape { return turn(turn(s)) }},
		{api.ShRecord, 0, gradual.Beside, func(s api.Shape) api.Shape { return s }}, {api.ShRecord, 1, gradual.Beside, sample.List}, {api.ShRecord, 1, gradual.Beside, func(s api.Shape) api.Shape { return sample.Fun(s) }},
		{api.ShRecord, 1, gradual.Beside, func(s api.Shape) api.Shape { return sample.Variant([]string{"a"}, s) }}, {api.ShRecord, 2, gradual.Beside, func(s api.Shape) api.Shape { return sample.Record([]string{"b", "a"}, i, s) }}, {api.ShVariant, 2, gradual.Beside, turn}, {api.ShRecord, 4, gradual.Beside, func(s api.Shape) api.Shape { return turn(turn(s)) }},
	} {
		for _, most := range []int{399, 400, 401, 402, 600} {
			few, many := most/2, most-1-c.more-1-most/2
			one, other, both := api.Shape{Kind: c.kind}, sample.Numbered(c.kind, 1000, many, i), sample.Numbered(c.kind, 1000, many, i)
			put(&one, "a", sample.Numbered(api.ShRecord, 2000, few-1, i))
			put(&other, "a", any)
			put(&both, "a", one.Parts[0])
			made := shape.Size(c.around(both))
			if made != min(most-1, 401) && most < 402 {
				t.Fatal(made, most)
			}
			// The one with more names is above the other one, if that is a variant.
			a, b := c.around(one), c.around(other)
			if !gradual.Near(a, b) {
				a, b = b, a
			}
			wantAll(t, a, b)
			want(t, c.of, a, b, shape.Sort(c.around(both)), made <= 400)
		}
	}
}

// put puts one more name with its part into a record or a variant.
func put(s *api.Shape, name string, part api.Shape) {
	s.Names, s.Parts = append(s.Names, name), append(s.Parts, part)
}

// TestGreat: P13.1, P13.2, types of as many parts or levels as may be, and of one more.
func TestGreat(t *testing.T) {
	i, any := sample.Int(), api.Shape{Kind: api.ShAny}
	for _, kind := range []int{api.ShRecord, api.ShVariant} {
		great := sample.Numbered(kind, 1000, 399, i)
		for _, other := range []api.Shape{great, any, {Kind: kind}, sample.Numbered(kind, 1000, 399, any), sample.Numbered(kind, 1200, 199, any)} {
			wantAll(t, great, other)
			wantAll(t, other, great)
			wantNone(t, sample.Numbered(kind, 1000, 400, i), other)
		}
	}
	wide := sample.Fun(slices.Repeat([]api.Shape{i}, 399)...)
	wantPair(t, wide, sample.Fun(slices.Repeat([]api.Shape{any}, 399)...), "=")
	wantPair(t, wide, sample.Fun(wide.Parts[1:]...), "|")
	for lists := range 40 {
		wantPair(t, sample.Within(any, lists), sample.Within(i, 39), "=")
		wantNone(t, sample.Within(any, lists), sample.Within(i, 40))
	}
	// Each level at which a type is an argument turns what is near.
	for n := range 39 {
		x, y, sign := sample.Record([]string{"a", "b"}, any, any), sample.Record([]string{"b"}, i), "<"
		for range n {
			x, y = sample.Fun(x, i), sample.Fun(y, any)
		}
		if n%2 == 1 {
			sign = ">"
		}
		wantPair(t, x, y, sign)
	}
}

// TestWrong: P13.1, P13.2, what may not be is plain, alike to, or near nothing, also where nobody would look at it.
func TestWrong(t *testing.T) {
	i, any, empty, none := sample.Int(), api.Shape{Kind: api.ShAny}, api.Shape{Kind: api.ShRecord}, api.Shape{Kind: api.ShVariant}
	for _, s := range append(sample.Wrong(), sample.Endless()...) {
		for _, other := range []api.Shape{s, any, i, empty, none, {}, sample.Fun(i), sample.List(any), sample.Type("K"), sample.Type("own/K")} {
			wantNone(t, s, other)
		}
		for _, whole := range []api.Shape{s, sample.List(s), sample.Record([]string{"a"}, s), sample.Variant([]string{"a", "b"}, i, s), sample.Fun(s, i), sample.Fun(s)} {
			if gradual.Plain(whole) {
				t.Error("Plain of a type that may not be")
			}
			wantNone(t, whole, whole)
			wantNone(t, whole, any)
		}
		wantNone(t, sample.Record([]string{"a"}, s), empty)
		wantNone(t, sample.Record([]string{"a", "b"}, s, i), sample.Record([]string{"b"}, i))
		wantNone(t, sample.Variant([]string{"a"}, s), none)
		wantNone(t, sample.Variant([]string{"a", "b"}, i, s), sample.Variant([]string{"a"}, i))
		wantNone(t, sample.Fun(s, i), sample.Fun(any, i))
		wantNone(t, sample.List(s), sample.List(any))
	}
}

// TestEmpty: rule 3, a list without an element may be nil or empty.
func TestEmpty(t *testing.T) {
	for kind := api.ShInt; kind <= api.ShOpaque; kind++ {
		a := api.Shape{Kind: kind}
		switch {
		case kind >= api.ShName:
			a.Of, a.Name = "q", "K"
		case kind == api.ShList || kind == api.ShFun:
			a.Parts = []api.Shape{sample.Int()}
		}
		b := a
		b.Names = []string{}
		if len(b.Parts) == 0 {
			b.Parts = []api.Shape{}
		}
		wantPair(t, a, b, "=")
		wantPair(t, b, api.Shape{Kind: api.ShAny, Names: []string{}, Parts: []api.Shape{}}, "=")
	}
}

// TestNew: rule 4, what is handed in is left as it is, and each list of what is handed out is new.
func TestNew(t *testing.T) {
	pick := sample.Pick(rand.New(rand.NewSource(4)).Intn)
	shared, any := sample.Type("{b: <d: Int | c: [Text]>, a: (K) -> own/K}"), api.Shape{Kind: api.ShAny}
	twice := []api.Shape{sample.Record([]string{"b", "a"}, shared, shared), sample.Variant([]string{"b", "a"}, shared, shared), sample.Fun(shared, shared), sample.List(shared), shared}
	var pairs [][2]api.Shape
	for _, s := range twice {
		pairs = append(pairs, [2]api.Shape{s, s}, [2]api.Shape{s, any}, [2]api.Shape{any, s}, [2]api.Shape{s, {Kind: s.Kind}}, [2]api.Shape{{Kind: s.Kind}, s})
	}
	for range 1500 {
		s := pick.Any(3)
		pairs = append(pairs, [2]api.Shape{sample.Roomy(unknown(pick, s, 12)), sample.Roomy(unknown(pick, pick.Like(s), 12))})
	}
	for _, pair := range pairs {
		a, b := pair[0], pair[1]
		wholeA, wholeB := sample.Opened(a), sample.Opened(b)
		memory := sample.MemoryOf(a, b)
		gradual.Plain(a)
		gradual.Alike(a, b)
		for _, of := range []call{gradual.Between, gradual.Beside} {
			s, ok := of(a, b)
			if memory.Taken(s) {
				t.Fatalf("%v of %v and %v is not new", s, a, b)
			}
			kept := fresh.Shape(s)
			sample.Scratch(s)
			want(t, of, a, b, kept, ok)
		}
		if !reflect.DeepEqual(sample.Opened(a), wholeA) || !reflect.DeepEqual(sample.Opened(b), wholeB) {
			t.Fatalf("%v or %v was changed", wholeA, wholeB)
		}
	}
}
