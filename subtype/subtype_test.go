package subtype_test

import (
	"math/rand"
	"reflect"
	"slices"
	"strings"
	"testing"

	"pandect/api"
	"pandect/fresh"
	"pandect/sample"
	"pandect/shape"
	"pandect/subtype"
)

// wantBelow asks Below of two types both ways for a sign: < or > of one that is below, = of both, | of none.
func wantBelow(t *testing.T, a, b api.Shape, sign string) {
	t.Helper()
	if ab := subtype.Below(a, b); ab != (sign == "<" || sign == "=") {
		t.Errorf("Below(%.200v, %.200v) = %v", a, b, ab)
	}
	if ba := subtype.Below(b, a); ba != (sign == ">" || sign == "=") {
		t.Errorf("Below(%.200v, %.200v) = %v", b, a, ba)
	}
}

// wantBound asks Join or Meet of two types both ways for an answer; for none, unless ok.
func wantBound(t *testing.T, name string, a, b, want api.Shape, ok bool) {
	t.Helper()
	ask := subtype.Join
	if name == "Meet" {
		ask = subtype.Meet
	}
	if !ok {
		want = api.Shape{}
	}
	for range 2 {
		if s, got := ask(a, b); got != ok || sample.Key(s) != sample.Key(want) {
			t.Errorf("%s(%.200v, %.200v) = %.200v, %v, want %.200v, %v", name, a, b, s, got, want, ok)
		}
		a, b = b, a
	}
}

// wantText asks Join or Meet by texts, and a text as - for none.
func wantText(t *testing.T, name, a, b, want string) {
	t.Helper()
	if want == "-" {
		wantBound(t, name, sample.Type(a), sample.Type(b), api.Shape{}, false)
		return
	}
	wantBound(t, name, sample.Type(a), sample.Type(b), sample.Type(want), true)
}

// wantLaws asks everything of two types that may be, against the models and what follows from the chapter's words; it tells their join and their meet.
func wantLaws(t *testing.T, a, b api.Shape) (join, meet api.Shape) {
	t.Helper()
	ab, ba := subtype.Below(a, b), subtype.Below(b, a)
	if ab != modelBelow(a, b) || ba != modelBelow(b, a) {
		t.Fatalf("Below of %v and %v: %v, %v", a, b, ab, ba)
	}
	if !subtype.Below(a, a) || ab && ba != shape.Same(a, b) {
		t.Fatalf("the order of %v and %v", a, b)
	}
	bounds := make([]api.Shape, 2)
	for up, name := range []string{"Meet", "Join"} {
		want, ok := modelBound(a, b, up)
		ok = ok && shape.Size(want) <= 400
		wantBound(t, name, a, b, want, ok)
		wantBound(t, name, a, a, shape.Sort(a), true)
		if ok {
			bounds[up] = want
		}
	}
	join, meet = bounds[1], bounds[0]
	if shape.Same(join, b) != ab || shape.Same(meet, a) != ab || shape.Same(join, a) != ba || shape.Same(meet, b) != ba {
		t.Fatalf("bounds of %v and %v: %v, %v", a, b, join, meet)
	}
	if join.Kind != 0 && !(subtype.Below(a, join) && subtype.Below(b, join)) || meet.Kind != 0 && !(subtype.Below(meet, a) && subtype.Below(meet, b)) {
		t.Fatalf("bounds of %v and %v are none: %v, %v", a, b, join, meet)
	}
	return join, meet
}

// TestExamples: the chapter's examples.
func TestExamples(t *testing.T) {
	for _, pair := range [][2]string{{"{a: Int, b: Text}", "{a: Int}"}, {"<a: Int>", "<a: Int | b: Text>"}, {"({}) -> Int", "({a: Int}) -> Int"}} {
		wantBelow(t, sample.Type(pair[0]), sample.Type(pair[1]), "<")
	}
	wantText(t, "Join", "{a: Int, b: Text}", "{b: Text, c: Int}", "{b: Text}")
	wantText(t, "Meet", "{a: Int, b: Text}", "{b: Text, c: Int}", "{a: Int, b: Text, c: Int}")
	wantText(t, "Join", "Int", "Text", "-")
}

// TestBelow: P12.1, each line of the words.
func TestBelow(t *testing.T) {
	for _, c := range [][3]string{
		{"Int", "=", "Int"}, {"Bool", "=", "Bool"}, {"Text", "=", "Text"}, {"Any", "=", "Any"}, {"K", "=", "K"}, {"q/K", "=", "q/K"}, {"own/K", "=", "own/K"},
		{"Int", "|", "Bool"}, {"Int", "|", "Text"}, {"Int", "|", "Any"}, {"{}", "|", "Any"}, {"<>", "|", "Any"}, {"Any", "|", "Bool"}, {"Any", "|", "() -> Any"}, {"Any", "|", "[Any]"},
		{"K", "|", "q/K"}, {"K", "|", "L"}, {"q/K", "|", "q/L"}, {"q/K", "|", "p/K"}, {"own/K", "|", "own/L"}, {"own/K", "|", "K"}, {"K", "|", "Int"}, {"own/K", "|", "Int"}, {"q/K", "|", "{}"},
		{"[Int]", "=", "[Int]"}, {"[Int]", "|", "[Text]"}, {"[Int]", "|", "Int"}, {"[[Int]]", "|", "[Int]"}, {"[{a: Int}]", "<", "[{}]"}, {"[<>]", "<", "[<a: Int>]"}, {"[[{a: Int}]]", "<", "[[{}]]"},
		{"{}", "=", "{}"}, {"{a: Int}", "<", "{}"}, {"{a: Int}", "|", "{b: Int}"}, {"{a: Int}", "|", "{a: Text}"}, {"{b: Int, a: Text}", "=", "{a: Text, b: Int}"}, {"{b: Int, a: Text}", "|", "{b: Text, a: Int}"},
		{"{a: Int, b: Text, c: Any}", "<", "{c: Any, a: Int}"}, {"{a: Int, b: Text}", "|", "{b: Text, c: Int}"}, {"{a: {b: Int}}", "<", "{a: {}}"}, {"{a: {b: Int}}", "|", "{a: {}, c: Int}"}, {"{a: {}, b: {a: Int}}", "|", "{a: {a: Int}, b: {}}"}, {"{a: {a: Int}, b: {a: Int}}", "<", "{a: {}, b: {a: Int}}"},
		{"<>", "=", "<>"}, {"<>", "<", "<a: Int>"}, {"<a: Int>", "|", "<b: Int>"}, {"<a: Int>", "|", "<a: Text>"}, {"<b: Int | a: Text>", "=", "<a: Text | b: Int>"}, {"<b: Int | a: Text>", "|", "<b: Text | a: Int>"},
		{"<c: Any | a: Int>", "<", "<a: Int | b: Text | c: Any>"}, {"<a: Int | b: Text>", "|", "<b: Text | c: Int>"}, {"<a: {b: Int}>", "<", "<a: {}>"}, {"<a: {b: Int}>", "<", "<a: {} | c: Int>"}, {"<a: {b: Int} | c: Int>", "|", "<a: {}>"}, {"<a: <> | b: <a: Int>>", "|", "<a: <a: Int> | b: <>>"}, {"<a: <>>", "<", "<a: <a: Int> | b: <>>"},
		{"{}", "|", "<>"}, {"{a: Int}", "|", "<a: Int>"},
		{"() -> Int", "=", "() -> Int"}, {"() -> Int", "|", "Int"}, {"() -> Int", "|", "(Int) -> Int"}, {"() -> () -> Int", "|", "() -> Int"}, {"() -> [Int]", "|", "[Int]"}, {"() -> Int", "|", "() -> Text"}, {"() -> {a: Int}", "<", "() -> {}"}, {"() -> <>", "<", "() -> <a: Int>"},
		{"(Int) -> Int", "|", "(Text) -> Int"}, {"(Int, Text) -> Int", "|", "(Text, Int) -> Int"}, {"({}) -> {}", "<", "({a: Int}) -> {}"}, {"({}) -> {a: Int}", "<", "({a: Int}) -> {}"}, {"({}) -> {}", "|", "({a: Int}) -> {a: Int}"}, {"(<a: Int>) -> Int", "<", "(<>) -> Int"},
		{"({}, {}) -> Int", "<", "({a: Int}, {b: Int}) -> Int"}, {"({a: Int}, {}) -> Int", "|", "({}, {a: Int}) -> Int"}, {"({}, {a: Int}) -> Int", "<", "({a: Int}, {a: Int}) -> Int"}, {"({a: Int}, {}) -> Int", "<", "({a: Int}, {a: Int}) -> Int"},
		{"(({a: Int}) -> Int) -> Int", "<", "(({}) -> Int) -> Int"}, {"((() -> {}) -> Int) -> Int", ">", "((() -> {a: Int}) -> Int) -> Int"}, {"() -> ({}) -> Int", "<", "() -> ({a: Int}) -> Int"},
		{"{f: ({}) -> <a: {b: Int}>, g: Int}", "<", "{f: ({c: Any}) -> <a: {} | b: Text>}"},
	} {
		wantBelow(t, sample.Type(c[0]), sample.Type(c[2]), c[1])
	}
}

// TestKinds: P12.1, P12.2, types of unlike kinds are not below each other, and have no bound.
func TestKinds(t *testing.T) {
	all := []string{"Int", "Bool", "Text", "Any", "[Int]", "{}", "<>", "() -> Int", "{a: Int}", "<a: Int>", "K", "q/K", "own/K", "own/L", "L", "(Int) -> Int"}
	for i, a := range all {
		for j, b := range all {
			x, y := sample.Type(a), sample.Type(b)
			switch related := a[0] == b[0] && strings.ContainsAny(a[:1], "{<"); {
			case i == j:
				wantBelow(t, x, y, "=")
				wantText(t, "Join", a, b, a)
				wantText(t, "Meet", a, b, a)
			case !related:
				wantBelow(t, x, y, "|")
				wantText(t, "Join", a, b, "-")
				wantText(t, "Meet", a, b, "-")
			}
		}
	}
}

// TestBounds: P12.2, each line of the table: a pair, its join, its meet.
func TestBounds(t *testing.T) {
	for _, c := range [][4]string{
		{"[Int]", "[Int]", "[Int]", "[Int]"}, {"[Int]", "[Text]", "-", "-"}, {"[{a: Int}]", "[{b: Int}]", "[{}]", "[{a: Int, b: Int}]"}, {"[<a: Int>]", "[<b: Int>]", "[<a: Int | b: Int>]", "[<>]"}, {"[{a: Int}]", "[{a: Text}]", "[{}]", "-"}, {"[<a: Int>]", "[<a: Text>]", "-", "[<>]"}, {"[[{}]]", "[[{a: K}]]", "[[{}]]", "[[{a: K}]]"},
		{"{}", "{}", "{}", "{}"}, {"{}", "{b: Int, a: Text}", "{}", "{a: Text, b: Int}"}, {"{b: Int, a: Text}", "{c: Any, b: Int}", "{b: Int}", "{a: Text, b: Int, c: Any}"}, {"{a: Int}", "{a: Text}", "{}", "-"}, {"{a: Int, b: Int}", "{a: Text, b: Int}", "{b: Int}", "-"}, {"{b: Int, a: Int}", "{b: Int, a: Text, c: Any}", "{b: Int}", "-"},
		{"{a: {b: Int}}", "{a: {c: Int}}", "{a: {}}", "{a: {b: Int, c: Int}}"}, {"{a: {b: Int}}", "{a: {b: Text}}", "{a: {}}", "-"}, {"{a: <b: Int>}", "{a: <b: Text>}", "{}", "{a: <>}"}, {"{a: <b: Int>, c: {}}", "{a: <c: Text>, d: Int}", "{a: <b: Int | c: Text>}", "{a: <>, c: {}, d: Int}"},
		{"<>", "<>", "<>", "<>"}, {"<>", "<b: Int | a: Text>", "<a: Text | b: Int>", "<>"}, {"<b: Int | a: Text>", "<c: Any | b: Int>", "<a: Text | b: Int | c: Any>", "<b: Int>"}, {"<a: Int>", "<a: Text>", "-", "<>"}, {"<a: Int | b: Int>", "<a: Text | b: Int>", "-", "<b: Int>"}, {"<b: Int | a: Int>", "<b: Int | a: Text | c: Any>", "-", "<b: Int>"},
		{"<a: {b: Int}>", "<a: {c: Int}>", "<a: {}>", "<a: {b: Int, c: Int}>"}, {"<a: {b: Int}>", "<a: {b: Text}>", "<a: {}>", "<>"}, {"<a: <b: Int>>", "<a: <b: Text>>", "-", "<a: <>>"}, {"<a: <b: Int> | c: {}>", "<a: <c: Text> | d: Int>", "<a: <b: Int | c: Text> | c: {} | d: Int>", "<a: <>>"},
		{"() -> Int", "() -> Int", "() -> Int", "() -> Int"}, {"() -> Int", "() -> Text", "-", "-"}, {"() -> Int", "(Int) -> Int", "-", "-"}, {"(Int, Int) -> Int", "(Int) -> Int", "-", "-"}, {"() -> {a: Int}", "() -> {b: Int}", "() -> {}", "() -> {a: Int, b: Int}"}, {"() -> {a: Int}", "() -> {a: Text}", "() -> {}", "-"}, {"() -> <a: Int>", "() -> <a: Text>", "-", "() -> <>"},
		{"({a: Int}) -> Int", "({b: Int}) -> Int", "({a: Int, b: Int}) -> Int", "({}) -> Int"}, {"({a: Int}) -> Int", "({a: Text}) -> Int", "-", "({}) -> Int"}, {"(<a: Int>) -> Int", "(<a: Text>) -> Int", "(<>) -> Int", "-"}, {"(Int) -> Int", "(Text) -> Int", "-", "-"},
		{"({a: Int}, <x: Int>) -> {a: Int}", "({b: Int}, <y: Int>) -> {b: Int}", "({a: Int, b: Int}, <>) -> {}", "({}, <x: Int | y: Int>) -> {a: Int, b: Int}"}, {"({a: Int}, Int) -> Int", "({a: Int}, Text) -> Int", "-", "-"}, {"(Int, {a: Int}) -> Int", "(Int, {a: Text}) -> Int", "-", "(Int, {}) -> Int"},
		{"(({a: Int}) -> Int) -> Int", "(({b: Int}) -> Int) -> Int", "(({}) -> Int) -> Int", "(({a: Int, b: Int}) -> Int) -> Int"}, {"() -> ({a: Int}) -> Int", "() -> ({b: Int}) -> Int", "() -> ({a: Int, b: Int}) -> Int", "() -> ({}) -> Int"},
		{"{f: (Int) -> Int, g: (K) -> own/K}", "{f: (Text) -> Int, g: (K) -> own/K}", "{g: (K) -> own/K}", "-"}, {"<f: (Int) -> Int | g: (K) -> own/K>", "<f: (Text) -> Int | g: (K) -> own/K>", "-", "<g: (K) -> own/K>"},
		{"{a: K, b: q/K, c: own/K}", "{a: q/K, b: own/K, c: K}", "{}", "-"}, {"{a: K, b: q/K, c: own/K}", "{a: K, b: q/K, c: own/K}", "{a: K, b: q/K, c: own/K}", "{a: K, b: q/K, c: own/K}"},
	} {
		wantText(t, "Join", c[0], c[1], c[2])
		wantText(t, "Meet", c[0], c[1], c[3])
	}
}

// TestOrdered: P12.2, what is answered is in the order of texts all through, also what only one has.
func TestOrdered(t *testing.T) {
	wantText(t, "Join", "{z: {b: Int, a: Int}, ab: Int, aB: Int}", "{aB: Int, z: {b: Int, a: Int, c: Int}, ab: Int}", "{aB: Int, ab: Int, z: {a: Int, b: Int}}")
	wantText(t, "Meet", "{z: {b: Int, a: Int}, a_: Int}", "{b: {d: <b: Int | a: Int>, c: ({b: Int, a: Int}) -> Int}, a: Int, a1: Int}", "{a: Int, a1: Int, a_: Int, b: {c: ({a: Int, b: Int}) -> Int, d: <a: Int | b: Int>}, z: {a: Int, b: Int}}")
	wantText(t, "Join", "<z: <b: Int | a: Int> | b: [{b: Int, a: Int}]>", "<c: {b: Int, a: Int} | a: Int>", "<a: Int | b: [{a: Int, b: Int}] | c: {a: Int, b: Int} | z: <a: Int | b: Int>>")
	for _, text := range []string{"{b: Int, a: {d: Int, c: Int}}", "<b: Int | a: <d: Int | c: Int>>", "({b: Int, a: Int}) -> <b: Int | a: Int>", "[{b: Int, a: Int}]"} {
		wantBound(t, "Join", sample.Type(text), sample.Type(text), shape.Sort(sample.Type(text)), true)
		wantBound(t, "Meet", sample.Type(text), sample.Type(text), shape.Sort(sample.Type(text)), true)
	}
}

// TestAll: P12.1 to P12.5 of all pairs out of some worlds of types, in each of which the join of two types is the one that both are below, and that is below all such; the meet likewise.
func TestAll(t *testing.T) {
	i, k := api.Shape{Kind: api.ShInt}, api.Shape{Kind: api.ShName, Name: "K"}
	flat := []api.Shape{i, {Kind: api.ShRecord}, {Kind: api.ShVariant}}
	unary := grown([]api.Shape{i}, flat, []string{"a"}, 1)
	for _, world := range [][]api.Shape{
		grown([]api.Shape{i, k}, append([]api.Shape{k}, flat...), []string{"a", "b"}, 0, 1),
		grown([]api.Shape{i}, flat, []string{"a"}, 0, 1, 2),
		grown([]api.Shape{i}, unary, []string{"a"}, 1),
	} {
		wantWorld(t, world)
	}
}

// wantWorld asks everything of all pairs of types in a world.
func wantWorld(t *testing.T, world []api.Shape) {
	t.Helper()
	at := map[string]int{}
	above, under := make([][]uint64, len(world)), make([][]uint64, len(world))
	for i, s := range world {
		at[sample.Key(s)] = i
		above[i], under[i] = make([]uint64, len(world)/64+1), make([]uint64, len(world)/64+1)
	}
	for i, a := range world {
		for j, b := range world {
			below := subtype.Below(a, b)
			if below != modelBelow(a, b) {
				t.Fatalf("Below(%v, %v) = %v", a, b, below)
			}
			if below {
				above[i][j/64] |= 1 << (j % 64)
				under[j][i/64] |= 1 << (i % 64)
			}
		}
	}
	for i, a := range world {
		for j, b := range world {
			join, ok := subtype.Join(a, b)
			wantExtreme(t, above, i, j, at, join, ok)
			meet, ok := subtype.Meet(a, b)
			wantExtreme(t, under, i, j, at, meet, ok)
		}
	}
}

// wantExtreme asks whether a bound of two types of a world stands among those that are bounds of both, with all others beyond it; whether there is none, if there is no such bound.
func wantExtreme(t *testing.T, beyond [][]uint64, i, j int, at map[string]int, s api.Shape, ok bool) {
	t.Helper()
	both, none := slices.Clone(beyond[i]), true
	for w := range both {
		both[w] &= beyond[j][w]
		none = none && both[w] == 0
	}
	if none || !ok {
		if ok == none || !reflect.DeepEqual(s, api.Shape{}) && !ok {
			t.Fatalf("of %d and %d: %v, %v", i, j, s, ok)
		}
		return
	}
	k, found := at[sample.Key(s)]
	if !found || both[k/64]>>(k%64)&1 == 0 {
		t.Fatalf("of %d and %d: %v is no bound", i, j, s)
	}
	for w := range both {
		if both[w]&^beyond[k][w] != 0 {
			t.Fatalf("of %d and %d: %v goes beyond another bound", i, j, s)
		}
	}
}

// TestMany: P12.1 to P12.5 of many types that are like each other.
func TestMany(t *testing.T) {
	pick := sample.Pick(rand.New(rand.NewSource(12)).Intn)
	joins, meets, chains := 0, 0, 0
	for range 4000 {
		s := pick.Any(1 + pick(4))
		l := []api.Shape{s, pick.Like(s), pick.Like(s)}
		if slices.ContainsFunc(l, func(s api.Shape) bool { return shape.Check(s) != api.OK }) {
			continue
		}
		join, meet := wantLaws(t, l[0], l[1])
		wantLaws(t, l[1], l[2])
		if join.Kind != 0 {
			joins++
			l = append(l, join, pick.Like(join))
		}
		if meet.Kind != 0 {
			meets++
			l = append(l, meet, pick.Like(meet))
		}
		chains += wantChains(t, l, join, meet)
	}
	if joins < 2000 || meets < 2000 || chains < 2000 {
		t.Error("too few", joins, meets, chains)
	}
}

// wantChains asks of types whether below goes through a third one, and whether the bounds of the first two are nearer than others; it tells how many were seen that lie beyond both.
func wantChains(t *testing.T, l []api.Shape, join, meet api.Shape) int {
	t.Helper()
	beyond := 0
	for _, c := range l {
		if subtype.Below(l[0], c) && subtype.Below(l[1], c) {
			beyond++
			if !subtype.Below(join, c) {
				t.Fatalf("%v is above %v and %v, but not above %v", c, l[0], l[1], join)
			}
		}
		if subtype.Below(c, l[0]) && subtype.Below(c, l[1]) {
			beyond++
			if !subtype.Below(c, meet) {
				t.Fatalf("%v is below %v and %v, but not below %v", c, l[0], l[1], meet)
			}
		}
		for _, a := range l {
			for _, b := range l {
				if subtype.Below(a, b) && subtype.Below(b, c) && !subtype.Below(a, c) {
					t.Fatalf("%v, %v and %v", a, b, c)
				}
			}
		}
	}
	return beyond
}

// TestSize: P12.2, bounds of as many parts as may be, and of one more, wherever in a type it grows.
func TestSize(t *testing.T) {
	i := api.Shape{Kind: api.ShInt}
	same := func(s api.Shape) api.Shape { return s }
	turn := func(s api.Shape) api.Shape { return sample.Fun(s, i) }
	for _, c := range []struct {
		join, meet int
		more       int
		around     func(api.Shape) api.Shape
	}{
		{api.ShVariant, api.ShRecord, 0, same}, {api.ShVariant, api.ShRecord, 1, sample.List}, {api.ShVariant, api.ShRecord, 1, func(s api.Shape) api.Shape { return sample.Fun(s) }}, {api.ShRecord, api.ShVariant, 2, turn}, {api.ShVariant, api.ShRecord, 4, func(s api.Shape) api.Shape { return turn(turn(s)) }},
		{api.ShVariant, api.ShRecord, 2, func(s api.Shape) api.Shape { return sample.Record([]string{"z", "a"}, s, i) }}, {api.ShVariant, api.ShRecord, 2, func(s api.Shape) api.Shape { return sample.Variant([]string{"z", "a"}, s, i) }},
	} {
		for _, most := range []int{399, 400, 401, 402, 700} {
			n := most - 1 - c.more
			for _, first := range []int{n / 2, n - 390, 390} {
				if first > 390 || n-first > 390 || first < 0 || first > n {
					continue
				}
				for kind, name := range map[int]string{c.join: "Join", c.meet: "Meet"} {
					a, b, both := c.around(sample.Numbered(kind, 1000, first, i)), c.around(sample.Numbered(kind, 1000+first, n-first, i)), c.around(sample.Numbered(kind, 1000, n, i))
					wantBound(t, name, a, b, shape.Sort(both), most <= 400)
				}
			}
		}
	}
	// A type of as many parts as may be with itself, and with one of nothing.
	for _, kind := range []int{api.ShRecord, api.ShVariant} {
		great, none := sample.Numbered(kind, 1000, 399, i), api.Shape{Kind: kind}
		wantLaws(t, great, great)
		wantLaws(t, great, none)
		wantLaws(t, great, sample.Numbered(kind, 1200, 199, i))
	}
	wide := sample.Fun(slices.Repeat([]api.Shape{i}, 399)...)
	wantLaws(t, wide, wide)
	wantLaws(t, wide, sample.Fun(wide.Parts[1:]...))
}

// TestSizeWithin: P12.2, what stands within is made however great it is: a name is not left out for its size, and what is left out for another thing counts for nothing.
func TestSizeWithin(t *testing.T) {
	i, x := api.Shape{Kind: api.ShInt}, api.Shape{Kind: api.ShText}
	for _, half := range []int{150, 198, 199, 200, 250} {
		v, w := sample.Numbered(api.ShVariant, 1000, half, i), sample.Numbered(api.ShVariant, 1000+half, half, i)
		q, r := sample.Numbered(api.ShRecord, 1000, half, i), sample.Numbered(api.ShRecord, 1000+half, half, i)
		ok := 2+2*half <= 400
		wantBound(t, "Join", sample.Record([]string{"x", "y"}, v, i), sample.Record([]string{"x", "z"}, w, i), sample.Record([]string{"x"}, sample.Numbered(api.ShVariant, 1000, 2*half, i)), ok)
		wantBound(t, "Meet", sample.Variant([]string{"x", "y"}, q, i), sample.Variant([]string{"x", "z"}, r, i), sample.Variant([]string{"x"}, sample.Numbered(api.ShRecord, 1000, 2*half, i)), ok)
		// The same further within, where a bound stands in another one.
		great, few := sample.Numbered(api.ShVariant, 1000, 2*half, i), sample.Numbered(api.ShRecord, 1000, 2*half, i)
		for _, around := range []func(api.Shape) api.Shape{sample.List, func(s api.Shape) api.Shape { return sample.Fun(s) }, func(s api.Shape) api.Shape { return sample.Fun(sample.Fun(s, i), i) }} {
			ok := shape.Size(sample.Record([]string{"x"}, around(great))) <= 400
			wantBound(t, "Join", sample.Record([]string{"x"}, around(v)), sample.Record([]string{"x"}, around(w)), sample.Record([]string{"x"}, around(great)), ok)
			wantBound(t, "Meet", sample.Variant([]string{"x"}, around(q)), sample.Variant([]string{"x"}, around(r)), sample.Variant([]string{"x"}, around(few)), ok)
		}
		ok = 3+2*half <= 400
		wantBound(t, "Join", sample.Record([]string{"x"}, sample.Variant([]string{"c"}, v)), sample.Record([]string{"x"}, sample.Variant([]string{"c"}, w)), sample.Record([]string{"x"}, sample.Variant([]string{"c"}, great)), ok)
		wantBound(t, "Join", sample.Record([]string{"x"}, sample.Fun(q, i)), sample.Record([]string{"x"}, sample.Fun(r, i)), sample.Record([]string{"x"}, sample.Fun(few, i)), ok)
		wantBound(t, "Join", sample.Record([]string{"x"}, sample.Record([]string{"c"}, v)), sample.Record([]string{"x"}, sample.Record([]string{"c"}, w)), sample.Record([]string{"x"}, sample.Record([]string{"c"}, great)), ok)
		wantBound(t, "Meet", sample.Variant([]string{"x"}, sample.Record([]string{"c"}, q)), sample.Variant([]string{"x"}, sample.Record([]string{"c"}, r)), sample.Variant([]string{"x"}, sample.Record([]string{"c"}, few)), ok)
		wantBound(t, "Meet", sample.Variant([]string{"x"}, sample.Variant([]string{"c"}, q)), sample.Variant([]string{"x"}, sample.Variant([]string{"c"}, r)), sample.Variant([]string{"x"}, sample.Variant([]string{"c"}, few)), ok)
		// What grows too great stands beside what has no bound, and so the name is left out.
		for _, at := range []int{0, 1} {
			names := []string{"a", "z"}
			first, second := sample.Variant(names, v, i), sample.Variant(names, w, x)
			third, fourth := sample.Record(names, q, i), sample.Record(names, r, x)
			if at == 1 {
				first, second, third, fourth = sample.Variant(names, i, v), sample.Variant(names, x, w), sample.Record(names, i, q), sample.Record(names, x, r)
			}
			wantBound(t, "Join", sample.Record([]string{"x", "y"}, first, i), sample.Record([]string{"x", "y"}, second, i), sample.Record([]string{"y"}, i), true)
			wantBound(t, "Meet", sample.Variant([]string{"x", "y"}, third, i), sample.Variant([]string{"x", "y"}, fourth, i), sample.Variant([]string{"y"}, i), true)
			wantBound(t, "Join", sample.Record([]string{"x"}, sample.Fun(third, i)), sample.Record([]string{"x"}, sample.Fun(fourth, i)), api.Shape{Kind: api.ShRecord}, true)
		}
	}
}

// TestDeep: P12.1, P12.2, types of as many levels as may be, and of one more.
func TestDeep(t *testing.T) {
	i := api.Shape{Kind: api.ShInt}
	deepest := sample.Within(i, 39)
	wantLaws(t, deepest, deepest)
	wantLaws(t, deepest, sample.Within(i, 38))
	a, b := sample.Record([]string{"a"}, sample.Within(i, 38)), sample.Record([]string{"b"}, sample.Within(i, 38))
	wantLaws(t, a, b)
	wantBound(t, "Meet", a, b, sample.Record([]string{"a", "b"}, sample.Within(i, 38), sample.Within(i, 38)), true)
	wantBound(t, "Join", sample.Within(sample.Variant([]string{"a"}, i), 38), sample.Within(sample.Variant([]string{"b"}, i), 38), sample.Within(sample.Variant([]string{"a", "b"}, i, i), 38), true)
	turned := i
	for range 39 {
		turned = sample.Fun(turned, i)
	}
	wantLaws(t, turned, turned)
	wantNone(t, sample.Within(i, 40), i)
	wantNone(t, sample.Within(i, 40), deepest)
	wantNone(t, sample.Record([]string{"a"}, deepest), a)
	wantNone(t, sample.Record([]string{"c"}, deepest), a)
	// Each level at which a type is an argument turns what is below.
	for n := range 39 {
		x, y, sign := sample.Record([]string{"a"}, i), api.Shape{Kind: api.ShRecord}, "<"
		for range n {
			x, y = sample.Fun(x, i), sample.Fun(y, i)
		}
		if n%2 == 1 {
			sign = ">"
		}
		wantBelow(t, x, y, sign)
	}
}

// wantNone asks everything of two types one of which may not be.
func wantNone(t *testing.T, a, b api.Shape) {
	t.Helper()
	wantBelow(t, a, b, "|")
	wantBound(t, "Join", a, b, api.Shape{}, false)
	wantBound(t, "Meet", a, b, api.Shape{}, false)
}

// TestWrong: P12.1, P12.2, what may not be is below nothing, and nothing below it; it has no bound, also where nobody would look at it.
func TestWrong(t *testing.T) {
	i, empty, none := api.Shape{Kind: api.ShInt}, api.Shape{Kind: api.ShRecord}, api.Shape{Kind: api.ShVariant}
	for _, s := range sample.Wrong() {
		for _, other := range []api.Shape{s, i, empty, none, {}, sample.Fun(i), sample.List(i), {Kind: api.ShName, Name: "K"}, {Kind: api.ShOpaque, Of: "q", Name: "K"}} {
			wantNone(t, s, other)
		}
		wantNone(t, sample.Record([]string{"a"}, s), empty)
		wantNone(t, sample.Record([]string{"a", "b"}, s, i), sample.Record([]string{"b"}, i))
		wantNone(t, sample.Record([]string{"a", "b"}, s, i), sample.Record([]string{"a"}, i))
		wantNone(t, sample.Variant([]string{"a"}, s), none)
		wantNone(t, sample.Variant([]string{"a", "b"}, i, s), sample.Variant([]string{"a"}, i))
		wantNone(t, sample.Fun(s, i), sample.Fun(i))
		wantNone(t, sample.List(s), sample.List(i))
		wantNone(t, sample.List(s), sample.List(s))
		wantNone(t, sample.List(s), i)
	}
	for _, s := range sample.Endless() {
		wantEndless(t, s, s)
		wantEndless(t, s, empty)
		wantEndless(t, s, sample.List(i))
		wantEndless(t, sample.Record([]string{"a"}, s), empty)
	}
}

// wantEndless asks everything of two types one of which has no end, so that it can't be told.
func wantEndless(t *testing.T, a, b api.Shape) {
	t.Helper()
	for range 2 {
		join, ok := subtype.Join(a, b)
		meet, too := subtype.Meet(a, b)
		if subtype.Below(a, b) || ok || too || len(join.Parts)+len(meet.Parts)+len(join.Names)+len(meet.Names)+join.Kind+meet.Kind != 0 {
			t.Error("a bound of a type without an end")
		}
		a, b = b, a
	}
}

// TestEmpty: rule 3, a list without an element may be nil or empty.
func TestEmpty(t *testing.T) {
	for kind := api.ShInt; kind <= api.ShOpaque; kind++ {
		a := api.Shape{Kind: kind}
		switch {
		case kind >= api.ShName:
			a.Of, a.Name = "q", "K"
		case kind == api.ShList || kind == api.ShFun:
			a.Parts = []api.Shape{{Kind: api.ShInt}}
		}
		b := a
		b.Names = []string{}
		if len(b.Parts) == 0 {
			b.Parts = []api.Shape{}
		}
		wantBelow(t, a, b, "=")
		wantBound(t, "Join", a, b, a, true)
		wantBound(t, "Meet", a, b, a, true)
	}
}

// TestNew: rule 4, what is handed in is left as it is, and each list of what is handed out is new.
func TestNew(t *testing.T) {
	pick := sample.Pick(rand.New(rand.NewSource(4)).Intn)
	shared := sample.Type("{b: <d: Int | c: [Text]>, a: (K) -> own/K}")
	pairs := [][2]api.Shape{{sample.Record([]string{"b", "a"}, shared, shared), sample.Record([]string{"d", "c"}, shared, shared)}, {sample.Variant([]string{"b", "a"}, shared, shared), sample.Variant([]string{"d", "c"}, shared, shared)}, {sample.Fun(shared, shared), sample.Fun(shared, shared)}, {shared, shared}, {sample.List(shared), sample.List(shared)}}
	for range 600 {
		s := pick.Any(3)
		pairs = append(pairs, [2]api.Shape{sample.Roomy(s), sample.Roomy(pick.Like(s))})
	}
	for _, pair := range pairs {
		a, b := pair[0], pair[1]
		wholeA, wholeB := sample.Opened(a), sample.Opened(b)
		join, joined := subtype.Join(a, b)
		meet, met := subtype.Meet(a, b)
		subtype.Below(a, b)
		memory := sample.MemoryOf(a, b)
		if memory.Taken(join) || memory.Taken(meet) {
			t.Fatalf("bounds of %v and %v are not new", a, b)
		}
		keepJoin, keepMeet := fresh.Shape(join), fresh.Shape(meet)
		sample.Scratch(join)
		sample.Scratch(meet)
		if !reflect.DeepEqual(sample.Opened(a), wholeA) || !reflect.DeepEqual(sample.Opened(b), wholeB) {
			t.Fatalf("%v or %v was changed", wholeA, wholeB)
		}
		wantBound(t, "Join", a, b, keepJoin, joined)
		wantBound(t, "Meet", a, b, keepMeet, met)
	}
}
