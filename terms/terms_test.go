package terms_test

import (
	"math"
	"math/rand"
	"reflect"
	"slices"
	"strconv"
	"strings"
	"testing"

	"pandect/api"
	"pandect/shape"
	"pandect/terms"
)

// Types and names that stand in the expressions below.
var (
	integer = api.Shape{Kind: api.ShInt}
	key     = api.Shape{Kind: api.ShName, Name: "Key"}
	ident   = api.Shape{Kind: api.ShName, Of: "q", Name: "Id"}
	pair    = api.Shape{Kind: api.ShRecord, Names: []string{"b", "a"}, Parts: []api.Shape{integer, key}}
	turned  = api.Shape{Kind: api.ShRecord, Names: []string{"a", "b"}, Parts: []api.Shape{key, integer}}
	opaque  = api.Shape{Kind: api.ShOpaque, Of: "q", Name: "Id"}

	longest      = "a" + strings.Repeat("z", 23)
	longestUpper = "A" + strings.Repeat("z", 23)
)

func list(s api.Shape) api.Shape { return api.Shape{Kind: api.ShList, Parts: []api.Shape{s}} }

func number(n int) api.Term { return api.Term{Kind: api.TmInt, N: n} }

func text(s string) api.Term { return api.Term{Kind: api.TmText, Name: s} }

func value(name string) api.Term { return api.Term{Kind: api.TmVar, Name: name} }

func fun(names []string, l []api.Shape, part api.Term) api.Term {
	return api.Term{Kind: api.TmFun, Names: names, Shapes: l, Parts: []api.Term{part}}
}

func call(parts ...api.Term) api.Term { return api.Term{Kind: api.TmCall, Parts: parts} }

func record(names []string, parts ...api.Term) api.Term {
	return api.Term{Kind: api.TmRecord, Names: names, Parts: parts}
}

// named is an expression of a kind that has a Name and one of Parts.
func named(kind int, name string, part api.Term) api.Term {
	return api.Term{Kind: kind, Name: name, Parts: []api.Term{part}}
}

func field(part api.Term, name string) api.Term { return named(api.TmField, name, part) }

func listOf(s api.Shape, parts ...api.Term) api.Term {
	return api.Term{Kind: api.TmList, Shapes: []api.Shape{s}, Parts: parts}
}

func choice(first, second, third api.Term, s api.Shape) api.Term {
	return api.Term{Kind: api.TmIf, Shapes: []api.Shape{s}, Parts: []api.Term{first, second, third}}
}

func match(names, vars []string, l []api.Shape, parts ...api.Term) api.Term {
	return api.Term{Kind: api.TmMatch, Names: names, Vars: vars, Shapes: l, Parts: parts}
}

func let(name string, first, second api.Term) api.Term {
	return api.Term{Kind: api.TmLet, Name: name, Parts: []api.Term{first, second}}
}

func as(part api.Term, s api.Shape) api.Term {
	return api.Term{Kind: api.TmAs, Shapes: []api.Shape{s}, Parts: []api.Term{part}}
}

// sample is an expression that may be, and its text.
type sample struct {
	text string
	term api.Term
}

// samples are expressions of each kind, with lists as long as they may be and as short; no two are the same, and each has a text of its own.
func samples() []sample {
	x, one, q := value("x"), number(1), api.Term{Kind: api.TmVar, Of: "q", Name: "f"}
	return []sample{
		{"0", number(0)}, {"1", one}, {"10", number(10)}, {"999999999999999", number(999999999999999)},
		{`""`, text("")}, {`"a"`, text("a")}, {`"1"`, text("1")}, {`"true"`, text("true")}, {`"é\n\t\"\\ 'q'/ "`, text("é\n\t\"\\ 'q'/ ")}, {"\"\x7f\u0080\u07ff\u0800\ud7ff\ue000\ufffd\uffff\U00010000\U0010ffff\"", text("\x7f\u0080\u07ff\u0800\ud7ff\ue000\ufffd\uffff\U00010000\U0010ffff")},
		{"true", api.Term{Kind: api.TmTrue}}, {"false", api.Term{Kind: api.TmFalse}},
		{"x", x}, {"y", value("y")}, {"q", value("q")}, {"q/f", q}, {"f/q", api.Term{Kind: api.TmVar, Of: "f", Name: "q"}}, {"q/q", api.Term{Kind: api.TmVar, Of: "q", Name: "q"}}, {longest, value(longest)}, {longest + "/" + longest, api.Term{Kind: api.TmVar, Of: longest, Name: longest}},
		{"fun () -> x", fun(nil, nil, x)}, {"fun (x: Int) -> x", fun([]string{"x"}, []api.Shape{integer}, x)}, {"fun (y: Int) -> x", fun([]string{"y"}, []api.Shape{integer}, x)}, {"fun (x: Key) -> x", fun([]string{"x"}, []api.Shape{key}, x)}, {"fun (x: Int) -> 1", fun([]string{"x"}, []api.Shape{integer}, one)}, {"fun (x: Int, y: q/Id) -> x", fun([]string{"x", "y"}, []api.Shape{integer, ident}, x)}, {"fun (y: Int, x: q/Id) -> x", fun([]string{"y", "x"}, []api.Shape{integer, ident}, x)}, {"fun (c: Int, b: [Int], a: {b: Int, a: Key}) -> fun () -> 1", fun([]string{"c", "b", "a"}, []api.Shape{integer, list(integer), pair}, fun(nil, nil, one))},
		{"x()", call(x)}, {"x(x)", call(x, x)}, {"x(1)", call(x, one)}, {"q/f(1)", call(q, one)}, {"x(1, x)", call(x, one, x)}, {"x(x, 1)", call(x, x, one)}, {"(1)(1, 1, 1)", call(one, one, one, one)}, {"x()()", call(call(x))}, {"x(1)(x)", call(call(x, one), x)}, {"x(x())", call(x, call(x))}, {"(fun (x: Int) -> x)(1)", call(fun([]string{"x"}, []api.Shape{integer}, x), one)}, {"fun (x: Int) -> x(1)", fun([]string{"x"}, []api.Shape{integer}, call(x, one))},
		{"{}", record(nil)}, {"{a = x}", record([]string{"a"}, x)}, {"{b = x}", record([]string{"b"}, x)}, {"{a = 1}", record([]string{"a"}, one)}, {"{b = x, a = 1}", record([]string{"b", "a"}, x, one)}, {"{a = 1, b = x}", record([]string{"a", "b"}, one, x)}, {"{a = {}, b = {a = 1}, aa = 1}", record([]string{"a", "b", "aa"}, record(nil), record([]string{"a"}, one), one)},
		{"x.a", field(x, "a")}, {"x.b", field(x, "b")}, {"q/f.a", field(q, "a")}, {"(1).a", field(one, "a")}, {"x.a.b", field(field(x, "a"), "b")}, {"x.a(1)", call(field(x, "a"), one)}, {"x(1).a", field(call(x, one), "a")}, {"f.a(1, x)", call(field(value("f"), "a"), one, x)},
		{"@some(1)", named(api.TmCase, "some", one)}, {"@none(1)", named(api.TmCase, "none", one)}, {"@some({})", named(api.TmCase, "some", record(nil))}, {"@a(@a(fun () -> x))", named(api.TmCase, "a", named(api.TmCase, "a", fun(nil, nil, x)))},
		{"[] of Int", listOf(integer)}, {"[] of Key", listOf(key)}, {"[x] of Int", listOf(integer, x)}, {"[1, x] of Int", listOf(integer, one, x)}, {"[x, 1] of Int", listOf(integer, x, one)}, {"[[] of Int, x, 1] of [Int]", listOf(list(integer), listOf(integer), x, one)}, {"[] of {b: Int, a: Key}", listOf(pair)}, {"[] of {a: Key, b: Int}", listOf(turned)},
		{"if x then 1 else 0 as Int", choice(x, one, number(0), integer)}, {"if x then 0 else 1 as Int", choice(x, number(0), one, integer)}, {"if x then 1 else 0 as q/Id", choice(x, one, number(0), ident)}, {"if if x then x else x as Key then 1 else if x then 1 else 1 as Int as Int", choice(choice(x, x, x, key), one, choice(x, one, one, integer), integer)},
		{"case x of {} as Int", match(nil, nil, []api.Shape{integer}, x)}, {"case x of {a(y: Int) -> 1} as Int", match([]string{"a"}, []string{"y"}, []api.Shape{integer, integer}, x, one)}, {"case x of {a(z: Int) -> 1} as Int", match([]string{"a"}, []string{"z"}, []api.Shape{integer, integer}, x, one)}, {"case x of {b(y: Int) -> 1} as Int", match([]string{"b"}, []string{"y"}, []api.Shape{integer, integer}, x, one)}, {"case x of {a(y: Key) -> 1} as Int", match([]string{"a"}, []string{"y"}, []api.Shape{key, integer}, x, one)}, {"case x of {a(y: Int) -> 1} as Key", match([]string{"a"}, []string{"y"}, []api.Shape{integer, key}, x, one)},
		{"case x of {b(y: Int) -> 1 | a(y: Key) -> y} as q/Id", match([]string{"b", "a"}, []string{"y", "y"}, []api.Shape{integer, key, ident}, x, one, value("y"))}, {"case x of {a(x: Int) -> x | b(y: Key) -> y | c(x: [Key]) -> case x of {} as Int} as {b: Int, a: Key}", match([]string{"a", "b", "c"}, []string{"x", "y", "x"}, []api.Shape{integer, key, list(key), pair}, x, x, value("y"), match(nil, nil, []api.Shape{integer}, x))},
		{"let x = 1 in x", let("x", one, x)}, {"let y = 1 in x", let("y", one, x)}, {"let x = x in 1", let("x", x, one)}, {"let x = let y = 1 in x in let x = 1 in x", let("x", let("y", one, x), let("x", one, x))},
		{"(x as Int)", as(x, integer)}, {"(x as Key)", as(x, key)}, {"(x as {b: Int, a: Key})", as(x, pair)}, {"(x as {a: Key, b: Int})", as(x, turned)}, {"((x as Int) as Any)", as(as(x, integer), api.Shape{Kind: api.ShAny})}, {"(fun () -> x as () -> Int)", as(fun(nil, nil, x), api.Shape{Kind: api.ShFun, Parts: []api.Shape{integer}})},
		{"new K(1)", named(api.TmNew, "K", one)}, {"new Key(1)", named(api.TmNew, "Key", one)}, {"new Int(x)", named(api.TmNew, "Int", x)}, {"new " + longestUpper + "(let x = 1 in x)", named(api.TmNew, longestUpper, let("x", one, x))},
		{"raw K(1)", named(api.TmRaw, "K", one)}, {"raw Any(new K(1))", named(api.TmRaw, "Any", named(api.TmNew, "K", one))}, {"(raw K(1) as <some: Int | a: [q/Id]>)", as(named(api.TmRaw, "K", one), api.Shape{Kind: api.ShVariant, Names: []string{"some", "a"}, Parts: []api.Shape{integer, list(ident)}})},
	}
}

// wrongTypes are types that may stand in no expression.
func wrongTypes() []api.Shape {
	wide := api.Shape{Kind: api.ShFun, Parts: slices.Repeat([]api.Shape{integer}, 400)}
	deep := integer
	for range 40 {
		deep = list(deep)
	}
	own := api.Shape{Kind: api.ShList, Parts: make([]api.Shape, 1)}
	own.Parts[0] = own
	return []api.Shape{
		{}, {Kind: 11}, {Kind: api.ShInt, Name: "Int"}, {Kind: api.ShName, Name: "Int"}, {Kind: api.ShName, Name: "key"}, {Kind: api.ShList}, {Kind: api.ShRecord, Names: []string{"a", "a"}, Parts: []api.Shape{integer, integer}}, list(api.Shape{}), wide, deep, own,
		opaque, list(opaque), list(list(opaque)), {Kind: api.ShFun, Parts: []api.Shape{opaque, integer}}, {Kind: api.ShFun, Parts: []api.Shape{integer, opaque}}, {Kind: api.ShRecord, Names: []string{"b", "a"}, Parts: []api.Shape{integer, opaque}}, {Kind: api.ShVariant, Names: []string{"a", "b"}, Parts: []api.Shape{list(opaque), integer}},
	}
}

// wrong are expressions that may not be for what stands in themselves alone.
func wrong() []api.Term {
	x, names, types := value("x"), []string{"a", "b"}, []api.Shape{integer, integer}
	l := []api.Term{
		{}, {Kind: -1}, {Kind: 18}, {Kind: 257}, {Kind: 1<<32 + 1}, {Kind: math.MinInt}, {Kind: math.MaxInt}, {Name: "x"}, {Parts: []api.Term{x}},
		number(-1), number(1e15), number(math.MinInt), number(math.MaxInt), {Kind: api.TmTrue, N: 1}, {Kind: api.TmFalse, Name: "x"}, {Kind: api.TmTrue, Of: "q"}, {Kind: api.TmVar}, {Kind: api.TmVar, Of: "q"}, {Kind: api.TmVar, Name: "x", Of: "Q"}, {Kind: api.TmVar, Name: "x", Of: "let"}, value("X"), value("in"), value("q/f"), value(longest + "z"), {Kind: api.TmInt, Of: "q"}, {Kind: api.TmInt, Name: "1"}, {Kind: api.TmText, N: 1}, {Kind: api.TmText, Of: "q"},
		text("\x00"), text("a\x08"), text("\x0b"), text("\r"), text("a\x1fb"), text("\x80"), text("a\xff"), text("\xc3"), text("\xc0\x80"), text("\xed\xa0\x80"), text("\xf4\x90\x80\x80"), text("\xc3\xa9\xa9"),
		fun(names[:1], nil, x), fun(nil, types[:1], x), fun(names[:1], types, x), fun(names, types[:1], x), fun([]string{"a", "a"}, types, x), fun([]string{"A"}, types[:1], x), fun([]string{""}, types[:1], x), {Kind: api.TmFun}, {Kind: api.TmFun, Parts: []api.Term{x, x}}, {Kind: api.TmFun, Vars: names[:1], Parts: []api.Term{x}},
		call(), {Kind: api.TmCall, Name: "f", Parts: []api.Term{x}}, {Kind: api.TmCall, Names: names, Parts: []api.Term{x, x}},
		record(names[:1]), record(nil, x), record(names, x), record([]string{"a", "a"}, x, x), record([]string{"a", "b", "a"}, x, x, x), record([]string{"a", "B"}, x, x), record([]string{"of"}, x), {Kind: api.TmRecord, Name: "x"}, {Kind: api.TmRecord, Vars: names, Names: names, Parts: []api.Term{x, x}},
		field(x, ""), field(x, "A"), field(x, "as"), {Kind: api.TmField, Name: "a"}, {Kind: api.TmField, Name: "a", Parts: []api.Term{x, x}}, {Kind: api.TmField, Of: "q", Name: "a", Parts: []api.Term{x}},
		named(api.TmCase, "", x), named(api.TmCase, "Some", x), {Kind: api.TmCase, Name: "a"}, {Kind: api.TmCase, Name: "a", Parts: []api.Term{x, x}},
		{Kind: api.TmList}, {Kind: api.TmList, Parts: []api.Term{x}}, {Kind: api.TmList, Shapes: types}, {Kind: api.TmList, Names: names[:1], Shapes: types[:1], Parts: []api.Term{x}},
		{Kind: api.TmIf, Shapes: types[:1], Parts: []api.Term{x, x}}, {Kind: api.TmIf, Shapes: types[:1], Parts: []api.Term{x, x, x, x}}, {Kind: api.TmIf, Parts: []api.Term{x, x, x}}, {Kind: api.TmIf, Shapes: types, Parts: []api.Term{x, x, x}},
		match(nil, nil, types[:1]), match(nil, nil, nil, x), match(nil, nil, types, x), match(nil, nil, types[:1], x, x), match(names[:1], nil, types, x, x), match(nil, names[:1], types, x, x), match(names[:1], names[:1], types[:1], x, x), match(names[:1], names[:1], types, x), match(names[:1], names, types, x, x), match([]string{"a", "a"}, names, append(types, integer), x, x, x), match(names, []string{"a", "B"}, append(types, integer), x, x, x), match([]string{"a", ""}, names, append(types, integer), x, x, x),
		let("", x, x), let("X", x, x), {Kind: api.TmLet, Name: "x", Parts: []api.Term{x}}, {Kind: api.TmLet, Name: "x", Parts: []api.Term{x, x, x}}, {Kind: api.TmLet, Name: "x", Shapes: types[:1], Parts: []api.Term{x, x}},
		{Kind: api.TmAs, Parts: []api.Term{x}}, {Kind: api.TmAs, Shapes: types[:1]}, {Kind: api.TmAs, Shapes: types, Parts: []api.Term{x}}, {Kind: api.TmAs, Shapes: types[:1], Parts: []api.Term{x, x}}, {Kind: api.TmAs, Name: "K", Shapes: types[:1], Parts: []api.Term{x}},
		named(api.TmNew, "", x), named(api.TmNew, "k", x), named(api.TmRaw, "k", x), named(api.TmRaw, longestUpper+"z", x), {Kind: api.TmNew, Name: "K"}, {Kind: api.TmRaw, Name: "K", Parts: []api.Term{x, x}}, {Kind: api.TmNew, Of: "q", Name: "K", Parts: []api.Term{x}},
	}
	for _, one := range samples() {
		one.term.At = -1
		l = append(l, one.term)
	}
	return l
}

// around are expressions with one more within, in each place where one may stand.
func around(t api.Term) []api.Term {
	x := value("x")
	return []api.Term{
		fun([]string{"x"}, []api.Shape{integer}, t), call(t), call(t, x), call(x, t), call(x, x, t, x), record([]string{"b"}, t), record([]string{"b", "a"}, x, t), field(t, "a"), named(api.TmCase, "a", t), listOf(integer, t), listOf(integer, x, t),
		choice(t, x, x, integer), choice(x, t, x, integer), choice(x, x, t, integer), match(nil, nil, []api.Shape{integer}, t), match([]string{"a", "b"}, []string{"x", "x"}, []api.Shape{key, key, key}, x, t, x), match([]string{"a", "b"}, []string{"x", "x"}, []api.Shape{key, key, key}, x, x, t), let("x", t, x), let("x", x, t), as(t, integer), named(api.TmNew, "K", t), named(api.TmRaw, "K", t),
	}
}

// aroundType are expressions with a type within, in each place where one may stand.
func aroundType(s api.Shape) []api.Term {
	x, names := value("x"), []string{"a", "b"}
	return []api.Term{
		fun(names, []api.Shape{s, key}, x), fun(names, []api.Shape{key, s}, x), listOf(s), listOf(s, x), choice(x, x, x, s), match(nil, nil, []api.Shape{s}, x), match(names, names, []api.Shape{s, key, key}, x, x, x), match(names, names, []api.Shape{key, s, key}, x, x, x), match(names, names, []api.Shape{key, key, s}, x, x, x), as(x, s),
	}
}

// within is an expression, so many cases deep.
func within(t api.Term, cases int) api.Term {
	for range cases {
		t = named(api.TmCase, "a", t)
	}
	return t
}

// many are so many names, in no order.
func many(n int) []string {
	l := make([]string, n)
	for i := range l {
		l[i] = "n" + strconv.Itoa(i)
	}
	return l
}

// wide are expressions with so many parts of another one, of each kind that may have so many.
func wide(n int, part api.Term) []api.Term {
	parts, names := slices.Repeat([]api.Term{part}, n), many(n)
	l := []api.Term{{Kind: api.TmCall, Parts: parts}, record(names, parts...), listOf(integer, parts...)}
	if n > 0 {
		l = append(l, match(names[1:], names[1:], slices.Repeat([]api.Shape{integer}, n), parts...))
	}
	return l
}

// anyOf tells any of some things.
func anyOf[E any](r *rand.Rand, l ...E) E { return l[r.Intn(len(l))] }

// anyTypes are so many types that may stand in an expression.
func anyTypes(r *rand.Rand, n int) []api.Shape {
	var l []api.Shape
	for range n {
		l = append(l, anyOf(r, integer, integer, key, ident, pair, turned, list(pair), api.Shape{Kind: api.ShAny}))
	}
	return l
}

// anyNames are some names, no two the same.
func anyNames(r *rand.Rand) []string {
	l := []string{"a", "b", "x"}
	r.Shuffle(len(l), func(i, j int) { l[i], l[j] = l[j], l[i] })
	return l[:r.Intn(4)]
}

// anyTerm makes an expression of any kind that may be, at any places; of one with a greater number more stands within.
func anyTerm(r *rand.Rand, deep int) api.Term {
	kind := 1 + r.Intn(17)
	if deep == 0 {
		kind = 1 + r.Intn(5)
	}
	parts := func(n int) []api.Term {
		var l []api.Term
		for range n {
			l = append(l, anyTerm(r, deep-1))
		}
		return l
	}
	t := api.Term{Kind: kind, At: r.Intn(3) * r.Intn(100)}
	switch kind {
	case api.TmInt:
		t.N = anyOf(r, 0, 1, 12, 999999999999999)
	case api.TmText:
		t.Name = anyOf(r, "", "a", "\n", "\\n", "\"", "é\t")
	case api.TmVar:
		t.Of, t.Name = anyOf(r, "", "", "q", "x"), anyOf(r, "x", "q", "xq")
	case api.TmFun:
		t.Names = anyNames(r)
		t.Shapes, t.Parts = anyTypes(r, len(t.Names)), parts(1)
	case api.TmCall:
		t.Parts = parts(1 + r.Intn(3))
	case api.TmRecord:
		t.Names = anyNames(r)
		t.Parts = parts(len(t.Names))
	case api.TmField, api.TmCase:
		t.Name, t.Parts = anyOf(r, "a", "b"), parts(1)
	case api.TmList:
		t.Shapes, t.Parts = anyTypes(r, 1), parts(r.Intn(3))
	case api.TmIf:
		t.Shapes, t.Parts = anyTypes(r, 1), parts(3)
	case api.TmMatch:
		t.Names = anyNames(r)
		for range t.Names {
			t.Vars = append(t.Vars, anyOf(r, "x", "y"))
		}
		t.Shapes, t.Parts = anyTypes(r, len(t.Names)+1), parts(len(t.Names)+1)
	case api.TmLet:
		t.Name, t.Parts = anyOf(r, "x", "y"), parts(2)
	case api.TmAs:
		t.Shapes, t.Parts = anyTypes(r, 1), parts(1)
	case api.TmNew, api.TmRaw:
		t.Name, t.Parts = anyOf(r, "K", "Key"), parts(1)
	}
	return t
}

// manyTerms are the samples, and some of any kind.
func manyTerms(t *testing.T, n, deep int) []api.Term {
	t.Helper()
	var l []api.Term
	for _, one := range samples() {
		l = append(l, one.term)
	}
	r := rand.New(rand.NewSource(8))
	for range n {
		u := anyTerm(r, deep)
		if err := modelCheck(u); err == api.ErrTerm {
			t.Fatal(u)
		} else if err == api.OK {
			l = append(l, u)
		}
	}
	return l
}

// wantNot asks all faces of an expression that may not be.
func wantNot(t *testing.T, u api.Term, want api.Errno) {
	t.Helper()
	if err := terms.Check(u); err != want {
		t.Errorf("Check(%.200v): error %d, want %d", u, int(err), int(want))
	}
	if s, err := terms.Show(u); s != "" || err != want {
		t.Errorf("Show(%.200v) = %.80q, error %d, want %d", u, s, int(err), int(want))
	}
	x := value("x")
	if terms.Same(u) || terms.Same(u, u) || terms.Same(u, x) || terms.Same(x, u) || terms.Same(x, x, u) {
		t.Errorf("Same of %.200v, which may not be", u)
	}
}

// wantLike asks all faces of an expression of any size that a test can hold, against the model.
func wantLike(t *testing.T, u api.Term) {
	t.Helper()
	parts, _ := modelParts(u)
	if size := terms.Size(u); size != min(len(parts), 4097) {
		t.Errorf("Size(%.200v) = %d, want %d", u, size, len(parts))
	}
	if want := modelCheck(u); want != api.OK {
		wantNot(t, u, want)
		return
	}
	if err := terms.Check(u); err != api.OK {
		t.Errorf("Check(%.200v): error %d", u, int(err))
	}
	if s, err := terms.Show(u); s != modelText(u) || err != api.OK {
		t.Errorf("Show(%.200v) = %.200q, error %d, want %.200q", u, s, int(err), modelText(u))
	}
	if bare := terms.Bare(u); !reflect.DeepEqual(modelPlaces(bare), modelBare(u)) {
		t.Errorf("Bare(%.200v) = %.200v", u, bare)
	}
	if !terms.Same(u) || !terms.Same(u, u) {
		t.Errorf("%.200v is not the Same as itself", u)
	}
}

// modelPlaces makes an expression anew with its places, its empty lists nil.
func modelPlaces(t api.Term) api.Term {
	other := modelBare(t)
	other.At = t.At
	for i, part := range t.Parts {
		other.Parts[i] = modelPlaces(part)
	}
	return other
}

// TestExamples: the chapter's examples.
func TestExamples(t *testing.T) {
	x := value("x")
	if s, err := terms.Show(call(field(value("f"), "a"), number(1), x)); s != "f.a(1, x)" || err != api.OK {
		t.Error(s, int(err))
	}
	if s, err := terms.Show(call(fun([]string{"x"}, []api.Shape{integer}, x), number(2))); s != "(fun (x: Int) -> x)(2)" || err != api.OK {
		t.Error(s, int(err))
	}
	wantNot(t, api.Term{Kind: api.TmLet, Name: "x", Parts: []api.Term{x}}, api.ErrTerm)
}

// TestCheck: P8.1, what may be and what may not, alone and within others.
func TestCheck(t *testing.T) {
	for _, one := range samples() {
		if modelCheck(one.term) != api.OK {
			t.Fatal(one.text)
		}
		wantLike(t, one.term)
		for _, other := range around(one.term) {
			wantLike(t, other)
		}
	}
	for _, u := range wrong() {
		wantNot(t, u, api.ErrTerm)
		for _, other := range around(u) {
			wantNot(t, other, api.ErrTerm)
		}
		for _, third := range around(around(u)[3]) {
			wantNot(t, third, api.ErrTerm)
		}
	}
}

// wantCheck asks Check of an expression, against the model.
func wantCheck(t *testing.T, u api.Term) {
	t.Helper()
	if err, want := terms.Check(u), modelCheck(u); err != want {
		t.Fatalf("Check(%v): error %d, want %d", u, int(err), int(want))
	}
}

// TestCheckLists: P8.1, all kinds with lists of any lengths, against the model.
func TestCheckLists(t *testing.T) {
	x := value("x")
	for kind := -1; kind <= 19; kind++ {
		for _, name := range []string{"", "x", "K"} {
			for names := range 4 {
				for vars := range 4 {
					for types := range 5 {
						for parts := range 6 {
							wantCheck(t, api.Term{Kind: kind, Name: name, Names: many(names), Vars: many(vars), Shapes: slices.Repeat([]api.Shape{integer}, types), Parts: slices.Repeat([]api.Term{x}, parts)})
						}
					}
				}
			}
		}
	}
}

// TestCheckFields: P8.1, expressions of all kinds with any one field or two another one, against the model.
func TestCheckFields(t *testing.T) {
	numbers := []int{0, 1, -1, 999999999999999, 1000000000000000, math.MinInt, math.MaxInt, 1 << 32, -1 << 32}
	texts := []string{"", "q", "Q", "let", "K_1", "k_1", "Int", "true", "é", "\xff", " ", "a b", "q/K", "_", "1", "\n", "\t", "\r", "\x1f", "\x7f", longest, longest + "z", longestUpper, longestUpper + "z"}
	lists := [][]string{nil, {}, {"a"}, {"A"}, {""}, {"in"}, {"a", "b"}, {"a", "a"}, {"a", "A"}, {"", ""}, {longest}, {longest + "z"}, {"é"}, {"a", "b", "a"}, {"b", "a", "c"}}
	for _, one := range samples() {
		for _, n := range numbers {
			for _, at := range numbers {
				u := one.term
				u.N, u.At = n, at
				wantCheck(t, u)
			}
		}
		for _, name := range texts {
			for _, of := range texts {
				u := one.term
				u.Of, u.Name = of, name
				wantCheck(t, u)
			}
		}
		for _, names := range lists {
			for _, vars := range lists {
				u := one.term
				u.Names, u.Vars = names, vars
				wantCheck(t, u)
			}
		}
		for kind := -1; kind <= 19; kind++ {
			u := one.term
			u.Kind = kind
			wantCheck(t, u)
		}
	}
}

// TestCheckTypes: P8.1, types that may stand in an expression and such that may not, in each place.
func TestCheckTypes(t *testing.T) {
	for _, s := range wrongTypes() {
		for _, u := range aroundType(s) {
			wantNot(t, u, api.ErrTerm)
			wantNot(t, around(u)[6], api.ErrTerm)
		}
	}
	most := api.Shape{Kind: api.ShFun, Parts: slices.Repeat([]api.Shape{integer}, 399)}
	deep := integer
	for range 39 {
		deep = list(deep)
	}
	for _, s := range []api.Shape{integer, key, ident, pair, turned, list(list(pair)), most, deep} {
		for _, u := range aroundType(s) {
			wantLike(t, u)
		}
	}
	// The parts and the levels of types are none of an expression's.
	u := api.Term{Kind: api.TmFun, Names: many(50), Shapes: slices.Repeat([]api.Shape{most}, 50), Parts: []api.Term{within(as(value("x"), deep), 37)}}
	if terms.Check(u) != api.OK || terms.Size(u) != 40 {
		t.Error("Check, Size of an expression with great types", int(terms.Check(u)), terms.Size(u))
	}
}

// TestCheckNames: P8.1, the same name far from the first one, very many names, and variables that are the same.
func TestCheckNames(t *testing.T) {
	names, x := many(4095), value("x")
	for _, u := range []api.Term{record(names, slices.Repeat([]api.Term{x}, 4095)...), fun(names, slices.Repeat([]api.Shape{integer}, 4095), x), match(names[:4000], slices.Repeat([]string{"x"}, 4000), slices.Repeat([]api.Shape{integer}, 4001), slices.Repeat([]api.Term{x}, 4001)...)} {
		last := len(u.Names) - 1
		wantLike(t, u)
		u.Names = slices.Clone(u.Names)
		u.Names[last] = u.Names[0]
		wantNot(t, u, api.ErrTerm)
		u.Names[last] = "N"
		wantNot(t, u, api.ErrTerm)
	}
	wantLike(t, fun(many(1<<15), slices.Repeat([]api.Shape{integer}, 1<<15), x))
	wantNot(t, record(many(1<<15), x), api.ErrTerm)
}

// TestBig: P8.1, how many parts an expression may have, in whatever form.
func TestBig(t *testing.T) {
	x := value("x")
	for _, n := range []int{0, 1, 2, 4094, 4095, 4096, 4097, 9000} {
		for _, u := range wide(n, x) {
			wantLike(t, u)
		}
	}
	for _, n := range []int{1, 2046, 2047, 2048, 5000} {
		for _, u := range wide(n, within(x, 1)) {
			wantLike(t, u)
		}
	}
	for _, n := range []int{62, 63, 64, 65} {
		for _, part := range wide(n, x) {
			for _, u := range wide(n-1, part) {
				wantLike(t, u)
			}
			for _, u := range wide(n, part) {
				wantLike(t, u)
			}
		}
	}
	if terms.Size(api.Term{}) != 1 || terms.Size(wide(4095, x)[0]) != 4096 || terms.Size(wide(4096, x)[0]) != 4097 || terms.Size(wide(4097, x)[0]) != 4097 {
		t.Error("Size")
	}
}

// TestBigAhead: P8.1, ErrBig goes ahead of ErrDeep, and that ahead of ErrTerm; parts of what has none are counted.
func TestBigAhead(t *testing.T) {
	x := value("x")
	for kind := range 19 {
		want := api.ErrTerm
		if kind == api.TmCall {
			want = api.OK
		}
		if err := terms.Check(api.Term{Kind: kind, Parts: slices.Repeat([]api.Term{x}, 4095)}); err != want {
			t.Errorf("kind %d: error %d", kind, int(err))
		}
		wantNot(t, api.Term{Kind: kind, Parts: make([]api.Term, 4095)}, api.ErrTerm)
		wantNot(t, api.Term{Kind: kind, Parts: make([]api.Term, 4096)}, api.ErrBig)
	}
	none := api.Term{}
	wantNot(t, within(none, 39), api.ErrTerm)
	wantNot(t, within(none, 40), api.ErrDeep)
	wantNot(t, within(none, 4095), api.ErrDeep)
	wantNot(t, within(none, 4096), api.ErrBig)
	wantNot(t, within(x, 1<<16), api.ErrBig)
	wantNot(t, within(wide(4055, x)[0], 40), api.ErrDeep)
	wantNot(t, within(wide(4056, x)[0], 40), api.ErrBig)
	wantNot(t, call(none, within(x, 39)), api.ErrDeep)
	wantNot(t, call(within(x, 39), none), api.ErrDeep)
	wantNot(t, call(none, within(x, 38)), api.ErrTerm)
	last := wide(4095, x)[0]
	last.Parts[4094] = none
	wantNot(t, last, api.ErrTerm)
}

// TestDeep: P8.1, how many levels an expression may have, in whatever place the next one stands.
func TestDeep(t *testing.T) {
	for which := range around(value("x")) {
		u := value("x")
		for n := 1; n < 50; n++ {
			want := api.OK
			if n > 40 {
				want = api.ErrDeep
			}
			if err := terms.Check(u); err != want || want != modelCheck(u) {
				t.Errorf("Check of %d levels of %d: error %d", n, which, int(err))
			}
			u = around(u)[which]
		}
	}
	for _, n := range []int{0, 1, 37, 38, 39, 100} {
		for _, m := range []int{0, 1, 38, 39} {
			wantLike(t, call(within(value("x"), n), within(value("y"), m)))
		}
	}
}

// TestEndless: P8.1 to P8.3, lists that stand in themselves, or far more often than memory could hold.
func TestEndless(t *testing.T) {
	own := as(value("x"), integer)
	own.Parts[0] = own
	great := value("x")
	for range 100 {
		great = call(great, great)
	}
	for _, u := range []api.Term{own, great, call(api.Term{}, great, own), call(api.Term{}, own, great)} {
		wantNot(t, u, api.ErrBig)
		if terms.Size(u) != 4097 {
			t.Error("Size", terms.Size(u))
		}
		a, b := u, terms.Bare(u)
		for range 90 {
			if a.Kind != b.Kind || len(a.Parts) != len(b.Parts) || len(a.Shapes) != len(b.Shapes) {
				t.Fatal("Bare of an endless expression")
			}
			last := len(a.Parts) - 1
			if &a.Parts[last] == &b.Parts[last] {
				t.Fatal("Bare shares a list of an endless expression")
			}
			a, b = a.Parts[last], b.Parts[last]
		}
	}
	for _, s := range wrongTypes()[8:11] {
		if bare := terms.Bare(as(value("x"), s)); bare.Shapes[0].Kind != s.Kind || len(bare.Shapes[0].Parts) != len(s.Parts) {
			t.Error("Bare of an expression with a great type")
		}
	}
}

// TestSameSamples: P8.2, of all samples each is the Same as itself alone.
func TestSameSamples(t *testing.T) {
	l := samples()
	for i, a := range l {
		for j, b := range l {
			if terms.Same(a.term, b.term) != (i == j) {
				t.Errorf("Same of %s and %s", a.text, b.text)
			}
			for _, which := range []int{0, 3, 6, 15, 18} {
				if terms.Same(around(a.term)[which], around(b.term)[which]) != (i == j) {
					t.Errorf("Same of %s and %s within another one", a.text, b.text)
				}
			}
		}
	}
}

// TestSame: P8.2, expressions of any kind, against the model.
func TestSame(t *testing.T) {
	l := manyTerms(t, 800, 1)
	var bare []api.Term
	for _, u := range l {
		bare = append(bare, modelBare(u))
	}
	same := 0
	for i, a := range l {
		for j, b := range l {
			want := reflect.DeepEqual(bare[i], bare[j])
			if terms.Same(a, b) != want {
				t.Fatalf("Same(%v, %v) = %v", a, b, !want)
			}
			if want {
				same++
			}
		}
	}
	if same <= 2*len(l) {
		t.Error("too few that are the same")
	}
}

// TestSameAll: P8.2, of none, of one and of many, whichever is another one.
func TestSameAll(t *testing.T) {
	if !terms.Same() {
		t.Error("Same of none")
	}
	u := samples()[20].term
	for n := 1; n < 6; n++ {
		all := slices.Repeat([]api.Term{u}, n)
		for i := range all {
			all[i].At = 3 * i
		}
		if !terms.Same(all...) {
			t.Errorf("Same of %d", n)
		}
		for i := range all {
			others := []api.Term{{}, value("x"), number(-1), within(u, 40), wide(5000, u)[0]}
			for _, other := range others {
				changed := slices.Clone(all)
				changed[i] = other
				if want := n == 1 && other.Kind == api.TmVar; terms.Same(changed...) != want {
					t.Errorf("Same of %d with another one at %d", n, i)
				}
			}
		}
	}
	// What may not be is not the same as itself, however often.
	for _, u := range wrong() {
		if terms.Same(u, u, u) {
			t.Errorf("Same of %v", u)
		}
	}
}

// TestSamePlaces: P8.2, places count nowhere, and fields everywhere.
func TestSamePlaces(t *testing.T) {
	x := value("x")
	for i, u := range around(x) {
		y := x
		y.At = math.MaxInt
		v := around(y)[i]
		v.At = i
		if !terms.Same(u, v) || !terms.Same(v, u) || !terms.Same(u, v, u) {
			t.Errorf("Same of %v and %v", u, v)
		}
		if w := around(value("y"))[i]; terms.Same(u, w) || terms.Same(w, u) || terms.Same(u, v, w) {
			t.Errorf("Same of %v and %v", u, w)
		}
	}
	for i, u := range aroundType(pair) {
		if v := aroundType(turned)[i]; terms.Same(u, v) || !shape.Same(pair, turned) {
			t.Errorf("Same of %v and %v, whose types are in another order", u, v)
		}
		if v := aroundType(integer)[i]; terms.Same(u, v) || terms.Same(v, u) {
			t.Errorf("Same of %v and %v", u, v)
		}
	}
}

// TestSameTypes: P8.2, types that are another one in any of their fields, in each place.
func TestSameTypes(t *testing.T) {
	named := func(kind int, names ...string) api.Shape {
		return api.Shape{Kind: kind, Names: names, Parts: slices.Repeat([]api.Shape{integer}, len(names))}
	}
	l := []api.Shape{
		integer, {Kind: api.ShBool}, {Kind: api.ShText}, {Kind: api.ShAny}, key, ident, {Kind: api.ShName, Name: "Id"}, {Kind: api.ShName, Of: "q", Name: "Key"}, {Kind: api.ShName, Of: "r", Name: "Id"}, {Kind: api.ShName, Of: "q", Name: "Int"},
		list(integer), list(key), list(list(integer)), pair, turned, named(api.ShRecord), named(api.ShVariant), named(api.ShRecord, "a"), named(api.ShVariant, "a"), named(api.ShRecord, "b"), named(api.ShRecord, "a", "b"), named(api.ShRecord, "b", "a"), named(api.ShVariant, "b", "a"), list(named(api.ShRecord, "a")), list(named(api.ShRecord, "b")),
		{Kind: api.ShFun, Parts: []api.Shape{integer}}, {Kind: api.ShFun, Parts: []api.Shape{integer, key}}, {Kind: api.ShFun, Parts: []api.Shape{key, integer}}, {Kind: api.ShFun, Parts: []api.Shape{integer, integer}},
	}
	for i, a := range l {
		for j, b := range l {
			for k, u := range aroundType(a) {
				if terms.Same(u, aroundType(b)[k]) != (i == j) {
					t.Errorf("Same of expressions with %v and %v", a, b)
				}
			}
		}
	}
}

// TestSameEmpty: rule 3, nil or empty is the same.
func TestSameEmpty(t *testing.T) {
	for _, one := range samples() {
		u := one.term
		emptied(&u)
		if !terms.Same(u, one.term) || !terms.Same(one.term, u) || terms.Check(u) != api.OK {
			t.Errorf("%s with empty lists", one.text)
		}
	}
}

// emptied puts empty lists where an expression has none, in new memory.
func emptied(t *api.Term) {
	*t = modelPlaces(*t)
	for _, l := range []*[]string{&t.Names, &t.Vars} {
		*l = append([]string{}, *l...)
	}
	t.Shapes, t.Parts = append([]api.Shape{}, t.Shapes...), append([]api.Term{}, t.Parts...)
	for i := range t.Shapes {
		s := &t.Shapes[i]
		s.Names, s.Parts = append([]string{}, s.Names...), append([]api.Shape{}, s.Parts...)
	}
	for i := range t.Parts {
		emptied(&t.Parts[i])
	}
}

// TestBare: P8.2, places are taken from all parts of what may be, and from none of what may not.
func TestBare(t *testing.T) {
	for _, u := range manyTerms(t, 3000, 3) {
		wantLike(t, u)
		bare := terms.Bare(u)
		parts, _ := modelParts(bare)
		for _, part := range parts {
			if part.At != 0 {
				t.Fatalf("Bare(%v) = %v", u, bare)
			}
		}
	}
	placed := as(value("x"), pair)
	placed.At, placed.Parts[0].At = 5, 6
	wrongs := []api.Term{within(placed, 39), wide(4095, placed)[0], call(placed, api.Term{}), {Kind: api.TmInt, Parts: []api.Term{placed}}, as(placed, opaque), named(api.TmNew, "k", placed), {Kind: api.TmAs, At: -1, Shapes: placed.Shapes, Parts: placed.Parts}}
	for _, u := range append(wrong(), wrongs...) {
		u := call(u, placed)
		u.At = 9
		if bare := terms.Bare(u); terms.Check(u) == api.OK || !reflect.DeepEqual(modelPlaces(bare), modelPlaces(u)) {
			t.Errorf("Bare(%.200v) = %.200v", u, bare)
		}
	}
	if bare := terms.Bare(within(placed, 38)); !reflect.DeepEqual(bare, within(as(value("x"), pair), 38)) {
		t.Error("Bare of one with 40 levels")
	}
}

// room hands out all places of the lists of an expression, with their spare room.
func room(v reflect.Value, take func(at uintptr)) {
	switch v.Kind() {
	case reflect.Struct:
		for i := range v.NumField() {
			room(v.Field(i), take)
		}
	case reflect.Slice:
		for i := range v.Cap() {
			take(v.Slice(0, v.Cap()).Index(i).UnsafeAddr())
		}
		for i := range v.Len() {
			room(v.Index(i), take)
		}
	}
}

// spare is a list with more behind its end.
func spare[E any](behind E, l ...E) []E { return append(slices.Clone(l), behind)[:len(l)] }

// TestBareNew: rule 4, Bare tells new memory, in which no list shares any with another one, and no call changes what it is handed.
func TestBareNew(t *testing.T) {
	made := func() api.Term {
		part := api.Term{Kind: api.TmFun, Names: spare("z", "b", "a"), Shapes: spare(integer, pair, pair), Parts: spare(number(7), value("x")), At: 4}
		return api.Term{Kind: api.TmMatch, Names: spare("z", "b", "a"), Vars: spare("z", "y", "y"), Shapes: spare(integer, pair, list(pair), turned), Parts: spare(number(7), part, part, number(1)), At: 2}
	}
	for _, kind := range []int{api.TmMatch, api.TmCall, 99} {
		u, want := made(), made()
		u.Kind, want.Kind = kind, kind
		bare := terms.Bare(u)
		terms.Check(u)
		terms.Size(u)
		terms.Same(u, bare, u)
		terms.Show(u)
		taken := map[uintptr]bool{}
		room(reflect.ValueOf([]api.Term{u}), func(at uintptr) { taken[at] = true })
		room(reflect.ValueOf([]api.Term{bare}), func(at uintptr) {
			if taken[at] {
				t.Fatal("a list that is not new")
			}
			taken[at] = true
		})
		if !reflect.DeepEqual(u, want) || u.Names[:3][2] != "z" || u.Vars[:3][2] != "z" || u.Parts[:4][3].N != 7 || u.Shapes[:4][3].Kind != api.ShInt || u.Parts[0].Parts[:2][1].N != 7 {
			t.Errorf("%v was changed", want)
		}
	}
	all := spare(number(5), value("x"), value("x"))
	if !terms.Same(all...) || all[0].Name != "x" || all[1].Name != "x" || all[:3][2].N != 5 {
		t.Error("Same changed what it was handed")
	}
}

// TestShow: P8.3, the text of each kind.
func TestShow(t *testing.T) {
	for _, one := range samples() {
		if s, err := terms.Show(one.term); s != one.text || err != api.OK {
			t.Errorf("Show(%v) = %q, error %d, want %q", one.term, s, int(err), one.text)
		}
	}
}

// TestShowOperand: P8.3, which parts stand in ( and ), and where.
func TestShowOperand(t *testing.T) {
	x := value("x")
	for _, one := range samples() {
		want := one.text
		switch one.term.Kind {
		case api.TmInt, api.TmFun, api.TmList, api.TmIf, api.TmMatch, api.TmLet:
			want = "(" + want + ")"
		}
		for layout, u := range map[string]api.Term{
			want + "()": call(one.term), want + "(x)": call(one.term, x), want + ".a": field(one.term, "a"), want + ".a.a": field(field(one.term, "a"), "a"), want + "().a": field(call(one.term), "a"),
			"x(" + one.text + ")": call(x, one.term), "x(1, " + one.text + ", x)": call(x, number(1), one.term, x), "fun () -> " + one.text: fun(nil, nil, one.term), "{a = " + one.text + ", b = x}": record([]string{"a", "b"}, one.term, x), "@a(" + one.text + ")": named(api.TmCase, "a", one.term), "[" + one.text + ", x] of Int": listOf(integer, one.term, x),
			"if " + one.text + " then " + one.text + " else " + one.text + " as Key": choice(one.term, one.term, one.term, key), "case " + one.text + " of {a(x: Int) -> " + one.text + " | b(x: Key) -> " + one.text + "} as Int": match([]string{"a", "b"}, []string{"x", "x"}, []api.Shape{integer, key, integer}, one.term, one.term, one.term),
			"let x = " + one.text + " in " + one.text: let("x", one.term, one.term), "(" + one.text + " as Int)": as(one.term, integer), "new K(" + one.text + ")": named(api.TmNew, "K", one.term), "raw K(" + one.text + ")": named(api.TmRaw, "K", one.term),
		} {
			if s, err := terms.Show(u); s != layout || err != api.OK {
				t.Errorf("Show(%v) = %q, error %d, want %q", u, s, int(err), layout)
			}
		}
	}
}

// TestShowTypes: P8.3, types are written as shape's Show does, in each place.
func TestShowTypes(t *testing.T) {
	for _, s := range []api.Shape{integer, key, ident, pair, turned, list(pair), {Kind: api.ShBool}, {Kind: api.ShText}, {Kind: api.ShAny}, {Kind: api.ShRecord}, {Kind: api.ShVariant}, {Kind: api.ShFun, Parts: []api.Shape{pair, integer, list(key)}}} {
		want, _ := shape.Show(s)
		for i, u := range aroundType(s) {
			other, _ := terms.Show(aroundType(api.Shape{Kind: api.ShName, Name: "Here"})[i])
			if got, err := terms.Show(u); got != strings.Replace(other, "Here", want, 1) || err != api.OK {
				t.Errorf("Show(%v) = %q, error %d", u, got, int(err))
			}
		}
	}
}

// TestShowText: P8.3, texts of any length, of all bytes and code points that may stand in one.
func TestShowText(t *testing.T) {
	for _, piece := range []string{"a", "\n", "\"", "\\", "\\n", "é", "a€", "\U0001f600", "ab\t\U0001f600é"} {
		for _, n := range []int{0, 1, 2, 511, 512, 682, 1022, 1023, 1024, 2045, 2046, 2047, 2048, 2049, 4093, 4094, 4095, 4096, 4097, 30000} {
			for _, ahead := range []string{"", "x", "xy", "xyz"} {
				s := ahead + strings.Repeat(piece, n)
				if got, err := terms.Show(text(s)); got != modelQuote(s) || err != api.OK {
					t.Fatalf("Show of a text of %d times %q behind %q: %d bytes, error %d", n, piece, ahead, len(got), int(err))
				}
			}
		}
	}
	for b := range 256 {
		u := text("a" + string([]byte{byte(b)}) + "b")
		wantLike(t, u)
	}
	for point := 0; point <= 0x10ffff; point += 1 + point/200 {
		wantLike(t, text(string(rune(point))))
	}
}

// TestBack: P8.4, Bare is Same, as great, has the same text, and stays; Same expressions have one text, and others another one.
func TestBack(t *testing.T) {
	byText := map[string]api.Term{}
	var l []api.Term
	for _, u := range manyTerms(t, 4000, 2) {
		bare := terms.Bare(u)
		if !terms.Same(bare, u) || !terms.Same(u, bare, terms.Bare(bare)) || terms.Size(bare) != terms.Size(u) || terms.Check(bare) != api.OK || !reflect.DeepEqual(terms.Bare(bare), bare) {
			t.Fatalf("Bare(%v) = %v", u, bare)
		}
		s, err := terms.Show(u)
		again, errAgain := terms.Show(bare)
		if s != again || err != api.OK || errAgain != api.OK {
			t.Fatalf("Show(%v) = %q, of Bare of it %q", u, s, again)
		}
		other, ok := byText[s]
		if ok && !terms.Same(u, other) {
			t.Fatalf("%v and %v have one text", u, other)
		}
		if !ok {
			l = append(l, u)
		}
		byText[s] = u
	}
	for i := range l[:300] {
		for j := range l {
			if terms.Same(l[i], l[j]) != (i == j) {
				t.Fatalf("Same of %v and %v, which have other texts", l[i], l[j])
			}
		}
	}
}
