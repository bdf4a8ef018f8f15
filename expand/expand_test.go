package expand_test

import (
	"math"
	"math/rand"
	"reflect"
	"slices"
	"strconv"
	"strings"
	"testing"

	"pandect/api"
	"pandect/expand"
	"pandect/fresh"
	"pandect/shape"
)

// TestExamples: the chapter's examples.
func TestExamples(t *testing.T) {
	s := of(t, "{x: A, a: q/Key}")
	wantText(t, s, binds(t, "A", "[Int]"), "-", api.ErrName)
	wantText(t, s, binds(t, "A", "[Int]", "q/Key", "Text"), "{a: Text, x: [Int]}", api.OK)
	wantText(t, s, append(binds(t, "A", "[Int]"), api.Bind{Of: "q", Name: "Key", Shape: api.Shape{Kind: api.ShOpaque, Of: "q", Name: "Key"}}), "{a: q/Key, x: [Int]}", api.OK)

	env, parts := binds(t, "A0", "Int"), 1
	for n := 1; ; n++ {
		last := "A" + strconv.Itoa(n-1)
		parts = 2*parts + 1
		more, err := expand.Declare(env, "p", api.Decl{Kind: api.DeType, Name: "A" + strconv.Itoa(n), Shape: of(t, "{x: "+last+", y: "+last+"}")})
		if parts > 400 {
			if err != api.ErrBig || more != nil || n != 8 {
				t.Error(n, int(err), len(more))
			}
			break
		}
		if err != api.OK || len(more) != n+1 || shape.Size(more[n].Shape) != parts || !shape.Closed(more[n].Shape) {
			t.Fatal(n, int(err))
		}
		env = more
	}
}

// TestResolve: P11.1, names in all places of types.
func TestResolve(t *testing.T) {
	env := binds(t, "A", "[Int]", "B", "{y: Text, x: Any}", "q/A", "Bool", "q/Key", "own/Key", "E", "{}", "N", "<>", "Ints", "(Int) -> Int")
	for text, want := range map[string]string{
		"Int": "Int", "Any": "Any", "own/Key": "own/Key", "own/A": "own/A", "{}": "{}", "<>": "<>", "() -> Text": "() -> Text",
		"A": "[Int]", "q/A": "Bool", "q/Key": "own/Key", "E": "{}", "N": "<>", "Ints": "(Int) -> Int", "B": "{x: Any, y: Text}",
		"[A]": "[[Int]]", "[q/A]": "[Bool]", "[[B]]": "[[{x: Any, y: Text}]]", "{b: A, a: q/A}": "{a: Bool, b: [Int]}", "<b: A | a: q/A>": "<a: Bool | b: [Int]>",
		"{a: A, b: A, c: [A]}": "{a: [Int], b: [Int], c: [[Int]]}", "(A) -> q/A": "([Int]) -> Bool", "(A, q/A, Int) -> B": "([Int], Bool, Int) -> {x: Any, y: Text}", "() -> A": "() -> [Int]",
		"(Ints) -> Ints": "((Int) -> Int) -> (Int) -> Int", "{z: <z: A | a: {y: B, b: Any}>, c: [q/Key]}": "{c: [own/Key], z: <a: {b: Any, y: {x: Any, y: Text}} | z: [Int]>}",
	} {
		wantText(t, of(t, text), env, want, api.OK)
	}
	for _, text := range []string{"C", "Key", "q/B", "p/A", "p/Key", "AA", "[C]", "{a: A, b: C}", "{a: C, b: A}", "<a: p/A | b: A>", "(A, C) -> A", "(C) -> A", "(A) -> C", "{z: <z: A | a: {y: C, b: A}>, c: [A]}"} {
		wantText(t, of(t, text), env, "-", api.ErrName)
	}
	wantText(t, of(t, "A"), nil, "-", api.ErrName)
	wantText(t, of(t, "[q/A]"), []api.Bind{}, "-", api.ErrName)
	wantText(t, of(t, "{b: Int, a: Int}"), nil, "{a: Int, b: Int}", api.OK)
}

// TestBind: P11.1, the bind of a name is the last one with that Of and that Name, whatever stands between.
func TestBind(t *testing.T) {
	for _, c := range []struct {
		text, want string
		pairs      []string
	}{
		{"A", "Text", []string{"A", "Int", "A", "Text"}},
		{"A", "Int", []string{"A", "Text", "A", "Int"}},
		{"A", "Bool", []string{"A", "Text", "B", "Any", "A", "Int", "q/A", "Any", "A", "Bool", "B", "Any"}},
		{"q/A", "Bool", []string{"q/A", "Text", "A", "Any", "q/A", "Bool", "A", "Int", "p/A", "Any", "q/B", "Any"}},
		{"{a: A, b: q/A, c: p/A, d: A}", "{a: Int, b: Bool, c: Text, d: Int}", []string{"A", "Any", "p/A", "Text", "q/A", "Any", "q/A", "Bool", "A", "Int"}},
		{"[A]", "[[Int]]", []string{"A", "Int", "A", "[Int]", "AA", "Int", "B", "A"}},
		{"{a: A, b: B}", "{a: {}, b: Int}", []string{"B", "Text", "A", "Text", "B", "Int", "A", "{}"}},
		// Names in what is put in stay, bound or not.
		{"A", "B", []string{"A", "B", "B", "Int"}},
		{"A", "A", []string{"A", "A"}},
		{"A", "[A]", []string{"A", "Int", "A", "[A]"}},
		{"[A]", "[[A]]", []string{"A", "[A]"}},
		{"A", "[Z]", []string{"A", "[Z]"}},
		{"{a: A, b: B}", "{a: B, b: A}", []string{"A", "B", "B", "A"}},
		{"{b: B, a: A}", "{a: {a: A, b: B}, b: q/B}", []string{"A", "{b: B, a: A}", "B", "q/B", "q/B", "Int"}},
		// What is opaque is no name.
		{"{a: own/A, b: q/A}", "{a: own/A, b: Int}", []string{"q/A", "Int", "A", "Text"}},
	} {
		wantText(t, of(t, c.text), binds(t, c.pairs...), c.want, api.OK)
	}
	opaque := api.Shape{Kind: api.ShOpaque, Of: "q", Name: "A"}
	wantText(t, within(opaque, 1), binds(t, "q/A", "Int"), "[q/A]", api.OK)
	wantText(t, api.Shape{Kind: api.ShFun, Parts: []api.Shape{opaque, of(t, "q/A")}}, binds(t, "q/A", "Int"), "(q/A) -> Int", api.OK)
}

// TestUnlike: P11.1, binds whose names no type can have, or whose names look like those of others, are binds of no name.
func TestUnlike(t *testing.T) {
	i, longest := api.Shape{Kind: api.ShInt}, "A"+strings.Repeat("a", 23)
	env := []api.Bind{
		{Name: "q/A", Shape: i}, {Of: "q/", Name: "A", Shape: i}, {Of: "q", Name: "/A", Shape: i}, {Of: "qA", Shape: i}, {Name: "qA", Shape: i}, {Of: "A", Name: "q", Shape: i}, {Of: "A", Shape: i}, {Name: "a", Shape: i}, {Of: "", Name: "", Shape: i},
		{Of: "Q", Name: "A", Shape: i}, {Of: "q", Name: "a", Shape: i}, {Of: "q\x00", Name: "A", Shape: i}, {Of: "q", Name: "A\x00", Shape: i}, {Of: " ", Name: "A", Shape: i}, {Of: "q", Name: "\xff", Shape: i}, {Name: "Int", Shape: api.Shape{Kind: api.ShText}}, {Name: longest + "a", Shape: i}, {Name: longest[1:], Shape: i},
	}
	for _, text := range []string{"A", "q/A", "{a: q/A}", longest, "q/Int"} {
		wantText(t, of(t, text), env, "-", api.ErrName)
	}
	wantText(t, i, env, "Int", api.OK)
	wantText(t, of(t, longest), append(env, api.Bind{Name: longest, Shape: i}), "Int", api.OK)
	wantText(t, of(t, "q/Int"), append(env, api.Bind{Of: "q", Name: "Int", Shape: of(t, "q/Any")}), "q/Any", api.OK)
	// Of a type that may not be no bind is looked for.
	for _, b := range env {
		s := api.Shape{Kind: api.ShName, Of: b.Of, Name: b.Name}
		wantText(t, s, env, "-", api.ErrShape)
	}
}

// TestFirst: P11.1, Check's error of the type goes ahead of all, then ErrName, then Check's error of the result.
func TestFirst(t *testing.T) {
	a, b, none := of(t, "A"), of(t, "B"), api.Shape{}
	i := api.Shape{Kind: api.ShInt}
	great := []api.Bind{{Name: "B", Shape: wide(i, 400)}}
	deep := []api.Bind{{Name: "B", Shape: within(i, 40)}}
	wrong := []api.Bind{{Name: "B", Shape: none}}
	for _, env := range [][]api.Bind{nil, great, deep, wrong} {
		wantText(t, wide(a, 400), env, "-", api.ErrBig)
		wantText(t, wide(b, 400), env, "-", api.ErrBig)
		wantText(t, within(a, 40), env, "-", api.ErrDeep)
		wantText(t, within(b, 40), env, "-", api.ErrDeep)
		wantText(t, within(wide(a, 1), 400), env, "-", api.ErrBig)
		wantText(t, api.Shape{Kind: api.ShFun, Parts: []api.Shape{none, within(a, 39)}}, env, "-", api.ErrDeep)
		for _, s := range misfits() {
			wantText(t, s, env, "-", api.ErrShape)
			wantText(t, api.Shape{Kind: api.ShFun, Parts: []api.Shape{a, b, s}}, env, "-", api.ErrShape)
			for _, other := range around(s) {
				wantText(t, other, env, "-", api.ErrShape)
			}
		}
		wantText(t, a, env, "-", api.ErrName)
		wantText(t, api.Shape{Kind: api.ShFun, Parts: []api.Shape{b, a, b}}, env, "-", api.ErrName)
		wantText(t, api.Shape{Kind: api.ShFun, Parts: []api.Shape{a, b}}, env, "-", api.ErrName)
	}
	for err, env := range map[api.Errno][]api.Bind{api.ErrBig: great, api.ErrDeep: deep, api.ErrShape: wrong} {
		wantText(t, b, env, "-", err)
		wantText(t, wide(b, 2), env, "-", err)
		wantText(t, a, append(env, api.Bind{Name: "A", Shape: i}), "Int", api.OK)
	}
	// In the result, too, ErrBig goes ahead of ErrDeep, and that ahead of ErrShape.
	all := []api.Bind{{Name: "C", Shape: wide(i, 398)}, {Name: "D", Shape: within(i, 39)}, {Name: "E", Shape: none}}
	wantText(t, of(t, "(E) -> D"), all, "-", api.ErrDeep)
	wantText(t, of(t, "(E, D) -> C"), all, "-", api.ErrBig)
	wantText(t, of(t, "(E) -> Int"), all, "-", api.ErrShape)
	wantText(t, of(t, "[C]"), all, written(t, within(wide(i, 398), 1)), api.OK)
}

// written is the text of a type that may be.
func written(t *testing.T, s api.Shape) string {
	t.Helper()
	text, err := shape.Show(s)
	if err != api.OK {
		t.Fatal(int(err))
	}
	return text
}

// TestLimits: P11.1, how many parts and levels the result may have, whatever they come from.
func TestLimits(t *testing.T) {
	i, a := api.Shape{Kind: api.ShInt}, of(t, "A")
	for parts := range 401 {
		env, want := []api.Bind{{Name: "A", Shape: wide(i, parts)}}, api.OK
		if parts == 0 {
			want = api.ErrShape
		}
		if parts == 400 {
			want = api.ErrBig
		}
		if _, err := expand.Resolve(a, env); err != want {
			t.Fatalf("%d parts: error %d", parts, int(err))
		}
	}
	for _, names := range []int{1, 2, 3, 19, 20, 133, 199, 200, 399} {
		for _, parts := range []int{1, 2, 3, 18, 19, 20, 132, 133, 198, 199, 397, 398, 399} {
			if _, err := wantResolve(t, wide(a, names), []api.Bind{{Name: "A", Shape: wide(i, parts)}}); (err == api.OK) != (1+names*(1+parts) <= 400) {
				t.Errorf("%d names of %d parts: error %d", names, parts, int(err))
			}
		}
	}
	for outer := range 40 {
		for inner := range 42 {
			_, err := wantResolve(t, within(a, outer), []api.Bind{{Name: "A", Shape: within(i, inner)}})
			if want := outer+inner+1 <= 40; (err == api.OK) != want || !want && err != api.ErrDeep {
				t.Errorf("%d and %d levels: error %d", outer, inner+1, int(err))
			}
		}
	}
	// A name that stands for something is no part of its own.
	wantText(t, wide(a, 399), []api.Bind{{Name: "A", Shape: i}}, written(t, wide(i, 399)), api.OK)
	wantText(t, within(a, 39), []api.Bind{{Name: "A", Shape: i}}, written(t, within(i, 39)), api.OK)
}

// TestWrongBinds: P11.1, what binds have that may not be is put in as it is; where it is not put in it changes nothing.
func TestWrongBinds(t *testing.T) {
	for _, s := range misfits() {
		env := []api.Bind{{Name: "A", Shape: s}, {Name: "B", Shape: of(t, "Int")}}
		wantText(t, of(t, "A"), env, "-", api.ErrShape)
		for _, other := range around(of(t, "A")) {
			wantText(t, other, env, "-", api.ErrShape)
		}
		wantText(t, of(t, "[B]"), env, "[Int]", api.OK)
		wantText(t, of(t, "{a: q/A}"), env, "-", api.ErrName)
		wantText(t, of(t, "A"), append(env, binds(t, "A", "Text")...), "Text", api.OK)
		wantText(t, of(t, "A"), append(binds(t, "A", "Text"), env...), "-", api.ErrShape)
	}
}

// TestSorted: P11.1, the result is in order all through, what was put in, too.
func TestSorted(t *testing.T) {
	env := binds(t, "A", "{z: {d: Int, c: Text}, y: <f: Int | e: Text>}", "B", "{b: Int, a: {d: Int, c: Int}}")
	wantText(t, of(t, "{n: A, m: (B) -> A}"), env, "{m: ({a: {c: Int, d: Int}, b: Int}) -> {y: <e: Text | f: Int>, z: {c: Text, d: Int}}, n: {y: <e: Text | f: Int>, z: {c: Text, d: Int}}}", api.OK)
}

// TestAny: P11.1, any types in any environments, against the model.
func TestAny(t *testing.T) {
	r := rand.New(rand.NewSource(11))
	count := map[api.Errno]int{}
	for n := range 30000 {
		env := anyEnv(r, true, n%2 == 0)
		if n%5 == 0 && len(env) > 0 {
			l := misfits()
			env[r.Intn(len(env))].Shape = l[r.Intn(len(l))]
		}
		if n%3 == 0 && len(env) > 0 {
			env[r.Intn(len(env))].Shape = wide(api.Shape{Kind: api.ShInt}, 300+r.Intn(200))
		}
		_, err := wantResolve(t, anyType(r, 4, true), env)
		count[err]++
	}
	for _, err := range []api.Errno{api.OK, api.ErrName, api.ErrBig, api.ErrShape} {
		if count[err] < 100 {
			t.Error(count)
		}
	}
}

// TestResolveClosed: P11.4, in an environment of closed types what comes is closed; of a closed type it is Sort, whatever the environment.
func TestResolveClosed(t *testing.T) {
	r := rand.New(rand.NewSource(12))
	for range 10000 {
		env := anyEnv(r, false, true)
		if s, err := expand.Resolve(anyType(r, 3, true), env); err == api.OK && !shape.Closed(s) || err != api.OK && err != api.ErrBig {
			t.Fatalf("%v, error %d", s, int(err))
		}
		s := anyType(r, 3, false)
		for _, env := range [][]api.Bind{nil, env, anyEnv(r, true, true), {{Name: "K"}, {Of: "q", Name: "K", Shape: wide(s, 500)}, {Name: "Int", Shape: of(t, "Text")}, {}}} {
			if got, err := expand.Resolve(s, env); err != api.OK || !equal(got, shape.Sort(s)) {
				t.Fatalf("%v, error %d", got, int(err))
			}
		}
	}
}

// TestMore: P11.5, binds of other names, the order of binds of unlike names, and that of fields and cases change nothing.
func TestMore(t *testing.T) {
	r := rand.New(rand.NewSource(13))
	others := append(binds(t, "Other", "Int", "K1", "K", "q/Other", "K", "other/K", "Text", "other/Q", "Q", "pp/Key", "[Int]"), api.Bind{}, api.Bind{Name: "k", Shape: of(t, "K")}, api.Bind{Of: "P", Name: "K"}, api.Bind{Of: "K", Name: "p"}, api.Bind{Name: "p/K"})
	for n := range 10000 {
		env, s := anyEnv(r, true, n%2 == 0), anyType(r, 3, true)
		want, wantErr := expand.Resolve(s, env)
		more := slices.Clone(env)
		for range r.Intn(6) {
			more = slices.Insert(more, r.Intn(len(more)+1), others[r.Intn(len(others))])
		}
		for _, around := range [][]api.Bind{more, mixed(r, env), mixed(r, more)} {
			if got, err := expand.Resolve(turned(r, s), around); err != wantErr || !equal(got, want) {
				t.Fatalf("Resolve(%v, %v) = %v, error %d, want %v, error %d as of %v", s, around, got, int(err), want, int(wantErr), env)
			}
		}
	}
}

// mixed are binds in another order, but for those of one name.
func mixed(r *rand.Rand, l []api.Bind) []api.Bind {
	l = slices.Clone(l)
	for range 3 * len(l) {
		i := 1 + r.Intn(len(l))
		if i < len(l) && (l[i-1].Of != l[i].Of || l[i-1].Name != l[i].Name) {
			l[i-1], l[i] = l[i], l[i-1]
		}
	}
	return l
}

// TestMany: P11.1, P11.5, very many binds.
func TestMany(t *testing.T) {
	var env []api.Bind
	for n := range 1 << 17 {
		env = append(env, api.Bind{Of: "q", Name: "A" + strconv.Itoa(n%50000), Shape: api.Shape{Kind: 1 + n%7%4}})
	}
	s := api.Shape{Kind: api.ShFun}
	want := api.Shape{Kind: api.ShFun}
	for n := 0; n < 50000; n += 130 {
		s.Parts = append(s.Parts, api.Shape{Kind: api.ShName, Of: "q", Name: "A" + strconv.Itoa(n)})
		last := n
		for last+50000 < 1<<17 {
			last += 50000
		}
		want.Parts = append(want.Parts, api.Shape{Kind: 1 + last%7%4})
	}
	for range 3 {
		if got, err := expand.Resolve(s, env); err != api.OK || !equal(got, want) {
			t.Fatal(int(err))
		}
	}
	if _, err := expand.Resolve(s, env[:50000-130]); err != api.ErrName {
		t.Error(int(err))
	}
	more, err := expand.Declare(env, "p", api.Decl{Kind: api.DeType, Name: "A", Shape: s})
	if err != api.OK || len(more) != len(env)+1 || !equal(more[len(env)].Shape, want) {
		t.Error(int(err))
	}
}

// endless are types that stand in themselves, or that have far more parts than memory could hold.
func endless() []api.Shape {
	own := api.Shape{Kind: api.ShList, Parts: make([]api.Shape, 1)}
	own.Parts[0] = own
	named := api.Shape{Kind: api.ShFun, Parts: []api.Shape{{Kind: api.ShName, Name: "A"}, {}}}
	named.Parts[1] = named
	many := api.Shape{Kind: api.ShInt}
	for range 100 {
		many = api.Shape{Kind: api.ShRecord, Names: []string{"b", "a"}, Parts: []api.Shape{many, many}}
	}
	return []api.Shape{own, named, many}
}

// TestEndless: P11.1 to P11.3, types without an end, handed in and bound.
func TestEndless(t *testing.T) {
	i := api.Shape{Kind: api.ShInt}
	for _, s := range endless() {
		env := []api.Bind{{Name: "A", Shape: s}, {Name: "B", Shape: i}, {Name: "C", Shape: within(s, 1)}}
		for _, one := range []api.Shape{s, of(t, "A"), of(t, "[A]"), of(t, "{a: B, b: C}"), wide(s, 2)} {
			if got, err := expand.Resolve(one, env); err != api.ErrBig || !equal(got, api.Shape{}) {
				t.Error(int(err))
			}
			for _, kind := range []int{api.DeType, api.DeOpaque} {
				if more, err := expand.Declare(env[:2], "p", api.Decl{Kind: kind, Name: "D", Shape: one}); err != api.ErrBig && err != api.ErrName || len(more) != 0 {
					t.Error(int(err))
				}
			}
		}
		if _, err := expand.Resolve(of(t, "(Z) -> A"), env); err != api.ErrName {
			t.Error(int(err))
		}
		if got, err := expand.Resolve(of(t, "[B]"), env); err != api.OK || !equal(got, within(i, 1)) {
			t.Error(int(err))
		}
		more, err := expand.Declare(env[:1], "p", api.Decl{Kind: api.DeType, Name: "D", Shape: i})
		if err != api.OK || len(more) != 2 || !equal(more[1].Shape, i) || more[0].Shape.Kind != s.Kind || len(more[0].Shape.Parts) != len(s.Parts) || &more[0].Shape.Parts[0] == &s.Parts[0] {
			t.Error(int(err))
		}
		l := expand.Types("q", []api.Item{{Kind: api.DeOpaque, Name: "A", Shape: s}, {Kind: api.DeLet, Name: "B", Shape: s}, {Kind: api.DeType, Name: "D", Shape: s}})
		if len(l) != 2 || !equal(l[0].Shape, api.Shape{Kind: api.ShOpaque, Of: "q", Name: "A"}) || l[1].Name != "D" || l[1].Shape.Kind != s.Kind || &l[1].Shape.Parts[0] == &s.Parts[0] {
			t.Error(len(l))
		}
	}
}

// oddShape is a type that may not be with something in each field, and room behind its lists.
func oddShape() api.Shape {
	return api.Shape{Kind: -7, Of: "\xff", Name: "let", Names: spare("z", "b", "", "b"), Parts: spare(api.Shape{Kind: 3}, api.Shape{}, api.Shape{Kind: 99, Names: spare("z", "a")})}
}

// TestTypes: P11.2, items of all kinds, in order, whatever their names and types.
func TestTypes(t *testing.T) {
	unsorted := of(t, "{b: A, a: <d: q/B | c: Int>}")
	for _, of := range []string{"", "q", "p", "Q", "let", "\xff", "q/A"} {
		items := spare(api.Item{Kind: api.DeType, Name: "Z"},
			api.Item{Kind: api.DeType, Name: "B", Shape: unsorted}, api.Item{Kind: api.DeLet, Name: "f", Shape: unsorted}, api.Item{Kind: api.DeOpaque, Name: "A"}, api.Item{Kind: api.DeType, Name: "A", Shape: oddShape()},
			api.Item{Kind: api.DeOpaque, Name: "A", Shape: unsorted}, api.Item{}, api.Item{Kind: 4, Name: "D", Shape: unsorted}, api.Item{Kind: -1, Name: "D"}, api.Item{Kind: math.MaxInt, Name: "D"}, api.Item{Kind: math.MinInt, Name: "D"}, api.Item{Kind: 1<<32 + 1, Name: "D"}, api.Item{Kind: 1<<32 + 2, Name: "D"},
			api.Item{Kind: api.DeType, Name: "B"}, api.Item{Kind: api.DeOpaque, Name: ""}, api.Item{Kind: api.DeOpaque, Name: "b\xff", Shape: oddShape()}, api.Item{Kind: api.DeType, Shape: api.Shape{Kind: api.ShAny}})
		want := []api.Bind{
			{Of: of, Name: "B", Shape: unsorted}, {Of: of, Name: "A", Shape: api.Shape{Kind: api.ShOpaque, Of: of, Name: "A"}}, {Of: of, Name: "A", Shape: oddShape()}, {Of: of, Name: "A", Shape: api.Shape{Kind: api.ShOpaque, Of: of, Name: "A"}},
			{Of: of, Name: "B"}, {Of: of, Shape: api.Shape{Kind: api.ShOpaque, Of: of}}, {Of: of, Name: "b\xff", Shape: api.Shape{Kind: api.ShOpaque, Of: of, Name: "b\xff"}}, {Of: of, Shape: api.Shape{Kind: api.ShAny}},
		}
		got := expand.Types(of, items)
		if !equalBinds(got, want) {
			t.Errorf("Types(%q) = %v, want %v", of, got, want)
		}
		wantNew(t, got, items)
		for i := range items {
			if l := expand.Types(of, items[i:i+1]); len(l) > 1 || len(l) == 1 && items[i].Kind != api.DeType && items[i].Kind != api.DeOpaque {
				t.Errorf("Types of %v: %v", items[i], l)
			}
		}
		if !equal(items[3].Shape, oddShape()) || items[3].Shape.Names[:4][3] != "z" || items[:len(items)+1][len(items)].Name != "Z" {
			t.Error("Types changed what was handed in")
		}
	}
	if len(expand.Types("q", nil)) != 0 || len(expand.Types("q", []api.Item{})) != 0 || len(expand.Types("q", []api.Item{{Kind: api.DeLet, Name: "f"}})) != 0 {
		t.Error("Types of nothing")
	}
}

// TestTypesResolve: P11.2 with P11.1, types of an interface by their names.
func TestTypesResolve(t *testing.T) {
	env := slices.Concat(expand.Types("q", []api.Item{{Kind: api.DeType, Name: "A", Shape: of(t, "[Int]")}, {Kind: api.DeOpaque, Name: "Key"}, {Kind: api.DeLet, Name: "F", Shape: of(t, "Int")}}), expand.Types("p", []api.Item{{Kind: api.DeType, Name: "A", Shape: of(t, "Text")}}))
	wantText(t, of(t, "{c: p/A, b: q/A, a: q/Key}"), env, "{a: q/Key, b: [Int], c: Text}", api.OK)
	for _, text := range []string{"A", "Key", "p/Key", "q/F", "F"} {
		wantText(t, of(t, text), env, "-", api.ErrName)
	}
}

// wantDeclare asks Declare for the environment with these binds behind, or for an error; what is handed in has to be left, and the answer has to be new.
func wantDeclare(t *testing.T, env []api.Bind, self string, d api.Decl, want api.Errno, behind ...api.Bind) {
	t.Helper()
	around, given := fresh.Binds(env), fresh.Shape(d.Shape)
	got, err := expand.Declare(env, self, d)
	all := slices.Concat(around, behind)
	if want != api.OK {
		all = nil
	}
	if err != want || !equalBinds(got, all) {
		t.Errorf("Declare(%.200v, %q, %.200v) = %.200v, error %d, want %.200v, error %d", env, self, d, got, int(err), all, int(want))
	}
	if !equalBinds(env, around) || !equal(d.Shape, given) {
		t.Errorf("Declare(%.200v, %q, %.200v) changed what was handed in", around, self, given)
	}
	wantNew(t, got, env, d.Shape)
}

// TestDeclare: P11.3, declarations of all kinds.
func TestDeclare(t *testing.T) {
	env := binds(t, "A", "[Int]", "q/A", "{b: Int, a: Z}", "A", "{b: Text, a: Any}")
	for _, self := range []string{"p", "", "q", "P", "let", "\xff"} {
		for _, name := range []string{"B", "A", "", "b", "Int", "\xff", "q/B"} {
			opaque := api.Bind{Name: name, Shape: api.Shape{Kind: api.ShOpaque, Of: self, Name: name}}
			for text, want := range map[string]string{"Int": "Int", "A": "{a: Any, b: Text}", "q/A": "{a: Z, b: Int}", "{d: A, c: q/A}": "{c: {a: Z, b: Int}, d: {a: Any, b: Text}}", "{f: Int, e: Int}": "{e: Int, f: Int}", "own/A": "own/A"} {
				d := api.Decl{Kind: api.DeType, Name: name, Shape: of(t, text)}
				wantDeclare(t, env, self, d, api.OK, api.Bind{Name: name, Shape: of(t, want)})
				d.At, d.Term = 77, api.Term{Kind: -1, At: -1}
				wantDeclare(t, env, self, d, api.OK, api.Bind{Name: name, Shape: of(t, want)})
				d.Kind = api.DeOpaque
				wantDeclare(t, env, self, d, api.OK, opaque)
			}
			for _, kind := range []int{api.DeType, api.DeOpaque} {
				for _, text := range []string{"B", "Z", "q/B", "p/A", "[B]", "{a: A, b: Z}"} {
					wantDeclare(t, env, self, api.Decl{Kind: kind, Name: name, Shape: of(t, text)}, api.ErrName)
				}
			}
			for _, kind := range []int{0, api.DeLet, 4, -1, math.MaxInt, math.MinInt, 1<<32 + api.DeType, 1<<32 + api.DeOpaque} {
				for _, s := range []api.Shape{{}, of(t, "Int"), of(t, "Z"), oddShape()} {
					wantDeclare(t, env, self, api.Decl{Kind: kind, Name: name, Shape: s}, api.OK)
				}
			}
		}
	}
}

// TestDeclareErrors: P11.3, Resolve's error, of what is opaque, too.
func TestDeclareErrors(t *testing.T) {
	i, a := api.Shape{Kind: api.ShInt}, of(t, "A")
	env := []api.Bind{{Name: "A", Shape: wide(i, 398)}, {Name: "B", Shape: within(i, 38)}, {Name: "C", Shape: oddShape()}}
	for _, kind := range []int{api.DeType, api.DeOpaque} {
		for _, c := range []struct {
			s    api.Shape
			want api.Errno
		}{
			{wide(i, 400), api.ErrBig}, {within(i, 40), api.ErrDeep}, {api.Shape{}, api.ErrShape}, {oddShape(), api.ErrShape}, {of(t, "D"), api.ErrName}, {of(t, "(D, A) -> A"), api.ErrName},
			{wide(a, 2), api.ErrBig}, {of(t, "[[A]]"), api.ErrBig}, {of(t, "[[B]]"), api.ErrDeep}, {of(t, "C"), api.ErrShape}, {of(t, "[C]"), api.ErrShape},
		} {
			wantDeclare(t, env, "p", api.Decl{Kind: kind, Name: "D", Shape: c.s}, c.want)
			wantDeclare(t, nil, "p", api.Decl{Kind: kind, Name: "D", Shape: within(c.s, 400)}, api.ErrBig)
		}
		for _, s := range misfits() {
			wantDeclare(t, env, "p", api.Decl{Kind: kind, Name: "D", Shape: s}, api.ErrShape)
		}
		for _, text := range []string{"[A]", "[B]"} {
			if more, err := expand.Declare(env, "p", api.Decl{Kind: kind, Name: "D", Shape: of(t, text)}); err != api.OK || len(more) != 4 || kind == api.DeOpaque && len(more[3].Shape.Parts) != 0 {
				t.Error(text, int(err))
			}
		}
	}
}

// TestDeclareEmpty: P11.3, in no environment.
func TestDeclareEmpty(t *testing.T) {
	for _, env := range [][]api.Bind{nil, {}, spare(api.Bind{Name: "A"})} {
		wantDeclare(t, env, "p", api.Decl{Kind: api.DeType, Name: "A", Shape: of(t, "{b: Int, a: Int}")}, api.OK, binds(t, "A", "{a: Int, b: Int}")...)
		wantDeclare(t, env, "own", api.Decl{Kind: api.DeOpaque, Name: "A", Shape: of(t, "Int")}, api.OK, api.Bind{Name: "A", Shape: of(t, "own/A")})
		wantDeclare(t, env, "p", api.Decl{Kind: api.DeType, Name: "A", Shape: of(t, "A")}, api.ErrName)
		wantDeclare(t, env, "p", api.Decl{Kind: api.DeLet, Name: "a"}, api.OK)
		wantDeclare(t, env, "p", api.Decl{}, api.OK)
	}
}

// TestDeclareBehind: P11.3 with P11.1, what was declared is known from then on, and stands for what it stood for then.
func TestDeclareBehind(t *testing.T) {
	env := binds(t, "q/K", "Int")
	for _, d := range []struct {
		kind       int
		name, text string
	}{{api.DeType, "A", "{x: q/K}"}, {api.DeOpaque, "K", "[A]"}, {api.DeType, "B", "(A) -> K"}, {api.DeType, "A", "[A]"}, {api.DeLet, "C", "Int"}, {api.DeOpaque, "A2", "Int"}} {
		more, err := expand.Declare(env, "p", api.Decl{Kind: d.kind, Name: d.name, Shape: of(t, d.text)})
		if err != api.OK {
			t.Fatal(d, int(err))
		}
		env = more
	}
	for text, want := range map[string]string{"A": "[{x: Int}]", "B": "({x: Int}) -> p/K", "K": "p/K", "A2": "p/A2", "q/K": "Int"} {
		wantText(t, of(t, text), env, want, api.OK)
	}
	for _, text := range []string{"C", "p/A", "p/K", "q/A"} {
		wantText(t, of(t, text), env, "-", api.ErrName)
	}
	if len(env) != 6 {
		t.Error(len(env))
	}
}

// TestLeft: what is handed in keeps its spare room, and no answer keeps what was handed in.
func TestLeft(t *testing.T) {
	put := func() api.Shape {
		return api.Shape{Kind: api.ShRecord, Names: spare("z", "b", "a"), Parts: spare(api.Shape{Kind: 99}, of(t, "Int"), of(t, "Text"))}
	}
	s := func() api.Shape {
		return api.Shape{Kind: api.ShRecord, Names: spare("z", "d", "c"), Parts: spare(api.Shape{Kind: 99}, of(t, "A"), of(t, "A"))}
	}
	env := func() []api.Bind {
		return spare(api.Bind{Name: "Z", Shape: oddShape()}, api.Bind{Name: "A", Shape: put()}, api.Bind{Of: "q", Name: "A", Shape: oddShape()})
	}
	whole := func(s api.Shape, env []api.Bind) []any {
		return []any{s.Names[:cap(s.Names)], s.Parts[:cap(s.Parts)], env[:cap(env)], env[0].Shape.Names[:3], env[0].Shape.Parts[:3], env[1].Shape.Names[:4]}
	}
	one, around := s(), env()
	resolved, err := expand.Resolve(one, around)
	wantNew(t, resolved, one, around)
	if err != api.OK {
		t.Error(int(err))
	}
	for _, kind := range []int{api.DeType, api.DeOpaque, api.DeLet} {
		more, err := expand.Declare(around, "p", api.Decl{Kind: kind, Name: "B", Shape: one})
		wantNew(t, more, one, around)
		if err != api.OK {
			t.Error(int(err))
		}
		more[0].Shape.Parts[0].Kind, more[0].Shape.Names[1], more[1].Name, more[1].Shape.Parts[1].Kind = 77, "q", "Q", 77
		_ = append(more, api.Bind{Name: "Q"})
	}
	resolved.Parts[0].Parts[0].Kind, resolved.Parts[0].Names[0], resolved.Names[0] = 77, "q", "q"
	if !reflect.DeepEqual(whole(one, around), whole(s(), env())) {
		t.Error("what was handed in was changed")
	}
	if equal(resolved.Parts[0], resolved.Parts[1]) || !equal(resolved.Parts[1], of(t, "{a: Text, b: Int}")) {
		t.Error("two places of one name share what was put in", resolved)
	}
	again, _ := expand.Resolve(one, around)
	if !equal(again, of(t, "{c: {a: Text, b: Int}, d: {a: Text, b: Int}}")) {
		t.Error(again)
	}
}
