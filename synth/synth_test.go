package synth_test

import (
	"math/rand"
	"reflect"
	"slices"
	"strings"
	"testing"

	"pandect/api"
	"pandect/expand"
	"pandect/fresh"
	"pandect/sample"
	"pandect/shape"
	"pandect/subtype"
	"pandect/synth"
	"pandect/terms"
)

// world is an environment with a value and a type of each kind.
func world() api.Env { return sample.World(synth.Base()) }

// closed is the type of a text, in which names are what they stand for in the world.
func closed(text string) api.Shape {
	s, err := expand.Resolve(sample.Type(text), world().Types)
	if err != api.OK {
		panic(text)
	}
	return s
}

// bind is a value of the type of a text; a / stands behind the package of its name.
func bind(name, text string) api.Bind {
	of, name, ok := strings.Cut(name, "/")
	if !ok {
		of, name = "", of
	}
	return api.Bind{Of: of, Name: name, Shape: sample.Type(text)}
}

// marked is the expression of a text, and the place of the mark ^ in it, which is no part of it.
func marked(text string) (api.Term, int) {
	ahead, behind, _ := strings.Cut(text, "^")
	return sample.Term(ahead + behind), len(ahead)
}

// want asks for the type of an expression, or for a fault.
func want(t *testing.T, u api.Term, env api.Env, s api.Shape, fault api.Fault) {
	t.Helper()
	got, first := synth.Type(u, env)
	if first != fault || sample.Key(got) != sample.Key(s) {
		text, _ := terms.Show(u)
		t.Errorf("%.300s: %.300s, %v, not %.300s, %v", text, sample.Key(got), first, sample.Key(s), fault)
	}
}

// wantFault asks for a fault.
func wantFault(t *testing.T, u api.Term, env api.Env, err api.Errno, at int) {
	t.Helper()
	want(t, u, env, api.Shape{}, api.Fault{Err: err, At: at})
}

// wantModel asks for what the model answers.
func wantModel(t *testing.T, u api.Term, env api.Env) (api.Shape, api.Fault) {
	t.Helper()
	s, fault := modelType(u, env)
	want(t, u, env, s, fault)
	return s, fault
}

// TestExamples: the chapter's examples.
func TestExamples(t *testing.T) {
	env := api.Env{Self: "p", Values: synth.Base()}
	want(t, sample.Term("(fun (x: Int) -> {a = x})(1).a"), env, sample.Int(), api.Fault{})
	want(t, sample.Term("@some(1)"), env, sample.Type("<some: Int>"), api.Fault{})
	want(t, sample.Term(`if true then 1 else "a" as Any`), env, sample.Type("Any"), api.Fault{})
	wantFault(t, sample.Term("add(1, true)"), env, api.ErrType, 7)
	wantFault(t, sample.Term("x"), env, api.ErrName, 0)
}

// TestBase: P14.1, the values that are there always, in new memory each time.
func TestBase(t *testing.T) {
	wanted := []api.Bind{
		bind("add", "(Int, Int) -> Int"), bind("sub", "(Int, Int) -> Int"), bind("mul", "(Int, Int) -> Int"), bind("less", "(Int, Int) -> Bool"), bind("same", "(Int, Int) -> Bool"),
		bind("not", "(Bool) -> Bool"), bind("both", "(Bool, Bool) -> Bool"), bind("cat", "(Text, Text) -> Text"), bind("size", "(Text) -> Int"), bind("show", "(Int) -> Text"),
	}
	memory := sample.MemoryOf()
	for range 2 {
		l := synth.Base()
		wantBinds(t, l, wanted)
		for i := range l {
			if memory.Taken(l[i].Shape) {
				t.Error(l[i].Name, "is not new")
			}
			sample.Scratch(l[i].Shape)
			l[i] = api.Bind{Of: "q", Name: "gone"}
		}
	}
}

// wantBinds asks whether binds are the same.
func wantBinds(t *testing.T, got, wanted []api.Bind) {
	t.Helper()
	if !slices.EqualFunc(got, wanted, func(a, b api.Bind) bool {
		return a.Of == b.Of && a.Name == b.Name && sample.Key(a.Shape) == sample.Key(b.Shape)
	}) {
		t.Errorf("%v, not %v", got, wanted)
	}
}

// roomy is an environment each list of which has more behind its end.
func roomy(env api.Env) api.Env {
	return api.Env{Self: env.Self, Types: sample.RoomyBinds(env.Types), Values: sample.RoomyBinds(env.Values), Own: sample.RoomyBinds(env.Own)}
}

// opened is an environment, copied, with the room behind its lists.
func opened(env api.Env) api.Env {
	return api.Env{Self: env.Self, Types: sample.OpenedBinds(env.Types), Values: sample.OpenedBinds(env.Values), Own: sample.OpenedBinds(env.Own)}
}

// lists are those of an environment.
func lists(env api.Env) [][]api.Bind { return [][]api.Bind{env.Types, env.Values, env.Own} }

// TestWith: P14.1, values stand behind those that were there, all else stays, whatever the environment and the binds.
func TestWith(t *testing.T) {
	odd := api.Env{Self: "\xff", Types: []api.Bind{{Name: "let", Shape: sample.Type("{b: Z, a: Int}")}, {}}, Values: []api.Bind{{Of: "Q"}, {Of: "Q"}}, Own: []api.Bind{{Shape: api.Shape{Kind: -1, Names: []string{"", ""}}}}}
	for _, env := range []api.Env{{}, {Self: "p"}, world(), odd, {Types: world().Types}, {Values: world().Values}, {Own: world().Own}} {
		for _, more := range [][]api.Bind{nil, {}, {bind("x", "Int")}, {bind("x", "{b: Int, a: q/Z}"), {}, bind("q/x", "() -> Int"), bind("x", "Text"), {Of: "\x00", Name: "A", Shape: api.Shape{Kind: 99}}}, world().Values} {
			one := synth.With(env, more...)
			if one.Self != env.Self {
				t.Error(one.Self, env.Self)
			}
			wantBinds(t, one.Types, env.Types)
			wantBinds(t, one.Values, slices.Concat(env.Values, more))
			wantBinds(t, one.Own, env.Own)
		}
	}
	wantBinds(t, synth.With(synth.With(api.Env{}, bind("x", "Int"), bind("y", "Int")), bind("x", "Text")).Values, []api.Bind{bind("x", "Int"), bind("y", "Int"), bind("x", "Text")})
	for _, s := range sample.Endless() {
		env := synth.With(api.Env{Types: []api.Bind{{Name: "A", Shape: s}}}, api.Bind{Name: "x", Shape: s})
		if len(env.Types) != 1 || len(env.Values) != 1 || shape.Check(env.Types[0].Shape) != api.ErrBig || shape.Check(env.Values[0].Shape) != api.ErrBig {
			t.Error("With of an endless type")
		}
	}
}

// TestWithNew: rule 4, With's answer is new memory, and nothing that was handed in is changed.
func TestWithNew(t *testing.T) {
	env, shared := roomy(world()), sample.Type("{b: [Int], a: Int}")
	env.Own = append(env.Own, api.Bind{Name: "A", Shape: shared}, api.Bind{Name: "B", Shape: shared})
	more := sample.RoomyBinds([]api.Bind{{Name: "a", Shape: shared}, {Name: "b", Shape: shared}})
	before, moreBefore, memory := opened(env), sample.OpenedBinds(more), sample.MemoryOf()
	for _, l := range append(lists(env), more) {
		memory.AddBinds(l)
	}
	one := synth.With(env, more...)
	for i, l := range lists(one) {
		for j := range l {
			if memory.Taken(l[j].Shape) {
				t.Errorf("%v is not new", l[j])
			}
			sample.Scratch(l[j].Shape)
			l[j] = api.Bind{Name: "scratched"}
		}
		_ = append(l, api.Bind{Name: "scratched"})
		if &l[0] == &lists(env)[i][0] {
			t.Error("a list that is not new")
		}
	}
	if !reflect.DeepEqual(opened(env), before) || !reflect.DeepEqual(sample.OpenedBinds(more), moreBefore) {
		t.Error("what was handed in was changed")
	}
}

// TestTypes: P14.2, each line of the table.
func TestTypes(t *testing.T) {
	for _, c := range [][2]string{
		{"0", "Int"}, {"999999999999999", "Int"}, {`""`, "Text"}, {`"a b"`, "Text"}, {"true", "Bool"}, {"false", "Bool"},

		{"pair", "{x: Int, y: Text}"}, {"q/any", "Any"}, {"add", "(Int, Int) -> Int"}, {"show", "(Int) -> Text"}, {"q/opt", "<none: {} | some: Int>"}, {"key", "K"}, {"q/key", "q/K"}, {"none", "() -> <>"}, {"q/rows", "[{a: Int, b: Any}]"},

		{"fun () -> 1", "() -> Int"}, {"fun (x: Num) -> x", "(Int) -> Int"}, {"fun (x: Int, y: Text) -> y", "(Int, Text) -> Text"}, {"fun (y: Int, x: Text) -> y", "(Int, Text) -> Int"}, {"fun (x: {b: Int, a: Num}) -> x", "({a: Int, b: Int}) -> {a: Int, b: Int}"},
		{"fun (k: K) -> fun (j: q/K) -> {k = k, j = j}", "(K) -> (q/K) -> {j: q/K, k: K}"}, {"fun (x: Int) -> fun (x: Text) -> x", "(Int) -> (Text) -> Text"}, {"fun (x: Int) -> fun (y: Text) -> x", "(Int) -> (Text) -> Int"}, {"fun (f: (Int) -> Any) -> f(1)", "((Int) -> Any) -> Any"},
		{"fun (add: Text) -> add", "(Text) -> Text"}, {"fun (any: Int) -> q/any", "(Int) -> Any"}, {"fun (x: q/Dyn) -> x", "(Any) -> Any"}, {"fun (x: Int, y: Text) -> add", "(Int, Text) -> (Int, Int) -> Int"},

		{"add(1, 2)", "Int"}, {"add(add(1, 2), size(show(3)))", "Int"}, {"both(not(true), less(1, 2))", "Bool"}, {`cat("a", show(1))`, "Text"}, {"none()", "<>"}, {"q/make({a = 1})", "q/K"}, {"each(fun (x: Int) -> x, [1] of Int)", "[Int]"}, {"each(fun (x: Any) -> 1, q/any)", "[Int]"}, {"add(q/any, q/any)", "Int"},
		{"q/any()", "Any"}, {"q/any(1)", "Any"}, {`q/any(1, "a", pair, q/any, add)`, "Any"}, {"q/any(1)(2)(3)", "Any"}, {"(fun () -> 1)()", "Int"}, {"(fun (x: {}) -> x)({a = 1})", "{}"}, {"(fun (x: Any) -> x)(1)", "Any"}, {`(fun (x: Any) -> "a")(1)`, "Text"}, {"(fun (f: ({a: Int, b: Int}) -> {}) -> f)(fun (x: {a: Int}) -> x)({b = 1, a = 1})", "{}"}, {"(fun (x: <a: Int | b: Int>) -> x)(@b(1))", "<a: Int | b: Int>"},

		{"{}", "{}"}, {"{a = 1}", "{a: Int}"}, {`{b = 1, a = true, ab = "", aB = {d = key, c = q/any}}`, `{a: Bool, aB: {c: Any, d: K}, ab: Text, b: Int}`}, {"{a = pair, b = pair}", "{a: {x: Int, y: Text}, b: {x: Int, y: Text}}"}, {"{add = 1, x = add}", "{add: Int, x: (Int, Int) -> Int}"},

		{"pair.y", "Text"}, {"pair.x", "Int"}, {"{b = true, a = 1}.b", "Bool"}, {"{b = true, a = 1}.a", "Int"}, {"q/any.a", "Any"}, {"q/any.a.b(1).c", "Any"}, {"{a = q/any}.a.b", "Any"}, {"{a = {b = {c = key}}}.a.b.c", "K"},

		{"@a(1)", "<a: Int>"}, {"@none({})", "<none: {}>"}, {"@a(@a({b = 1, a = 2}))", "<a: <a: {a: Int, b: Int}>>"},

		{"[] of Num", "[Int]"}, {"[] of K", "[K]"}, {"[1, q/any, add(1, 2)] of Int", "[Int]"}, {"[{a = 1}, {b = 2}] of {}", "[{}]"}, {"[1, true, pair] of Any", "[Any]"}, {"[@a(1), @b(2)] of <b: Int | a: Int | c: Int>", "[<a: Int | b: Int | c: Int>]"}, {"[[] of Int, [1] of Int] of [Int]", "[[Int]]"}, {"[[1] of Any] of [Text]", "[[Text]]"},

		{"if true then 1 else 2 as Num", "Int"}, {"if q/any then q/any else 1 as Int", "Int"}, {"if less(1, 2) then {a = 1} else {b = 1} as {}", "{}"}, {"if true then 1 else {} as Any", "Any"}, {"if true then @a(1) else @b(2) as <b: Int | a: Any>", "<a: Any | b: Int>"},

		{"case q/opt of {some(x: Num) -> x | none(x: {}) -> 0} as Int", "Int"}, {"case q/opt of {none(x: {}) -> x | more(y: Text) -> {} | some(z: Any) -> {z = z}} as {}", "{}"}, {"case @a(1) of {a(pair: Int) -> pair} as Int", "Int"}, {"case @a(q/any) of {a(x: Int) -> x} as Any", "Any"}, {"case @a(1) of {a(x: Int) -> pair} as Pair", "{x: Int, y: Text}"}, {`case q/any of {a(x: Text) -> cat(x, x) | b(x: Int) -> show(x) | c(y: K) -> "a"} as Text`, "Text"}, {"case q/any of {} as Text", "Text"}, {"case none() of {} as K", "K"}, {"case none() of {a(x: Int) -> x} as Int", "Int"}, {"case @a(1) of {a(any: Int) -> q/any} as Any", "Any"}, {"case @a({b = 1, a = 1}) of {a(x: {a: Num}) -> x.a | b(x: Pair) -> x.x} as Int", "Int"},

		{"let x = 1 in x", "Int"}, {"let x = 1 in true", "Bool"}, {`let x = 1 in let x = "a" in x`, "Text"}, {`let x = 1 in let y = "a" in x`, "Int"}, {"let pair = pair.x in pair", "Int"}, {"let add = add(1, 2) in add", "Int"}, {"let any = 1 in q/any", "Any"}, {"let x = let x = 1 in show(x) in x", "Text"}, {"let x = {b = 1, a = 2} in {y = x, x = x}", "{x: {a: Int, b: Int}, y: {a: Int, b: Int}}"}, {"let f = fun (x: Int) -> {a = x} in f(1).a", "Int"},

		{"(1 as Any)", "Any"}, {"(1 as Num)", "Int"}, {"({a = 1} as {})", "{}"}, {"(q/any as K)", "K"}, {"((1 as Any) as Text)", "Text"}, {"(q/any as {b: Int, a: Pair})", "{a: {x: Int, y: Text}, b: Int}"}, {"(@a(1) as <b: Int | a: Int>)", "<a: Int | b: Int>"}, {"(add as (Int, Any) -> Any)", "(Int, Any) -> Any"},

		{"new K(1)", "K"}, {"new K(q/any)", "K"}, {"new Box({n = 1, lines = [] of Text, more = true})", "Box"}, {"raw K(key)", "Int"}, {"raw K(new K(2))", "Int"}, {"raw Box(q/any)", "{lines: [Text], n: Int}"}, {"raw Box(new Box({lines = q/any, n = 1})).lines", "[Text]"}, {"fun (k: K) -> raw K(k)", "(K) -> Int"},
	} {
		u := sample.Term(c[0])
		want(t, u, world(), closed(c[1]), api.Fault{})
		want(t, sample.Placed(u, 7), world(), closed(c[1]), api.Fault{})
		wantModel(t, u, world())
	}
}

// TestFaults: P14.2, each line of the table, of several faults the first one; a ^ stands where it is.
func TestFaults(t *testing.T) {
	for err, l := range map[api.Errno][]string{
		api.ErrName: {
			"^x", "^any", "^q/pair", "^p/pair", "^q/add", "^p/any", "{a = 1, b = ^x}", "^addd", "^ad",
			"^fun (x: Z) -> 1", "^fun (x: Z) -> y", "{a = ^fun (x: Int, y: [Z]) -> y}", "^fun (x: q/Pair) -> 1", "^fun (x: p/K) -> 1", "fun (x: Int) -> ^y", "fun (x: Int) -> ^q/x", "fun (x: Int) -> fun (y: {a: Int}) -> add(x, ^z)", "add((fun (x: Int) -> x)(1), ^x)", "{a = fun (x: Int) -> x, b = ^x}",
			"^x(true.a)", "add(^x, true)", "add(1, ^x)", "q/any(^x)", "q/any(1, ^x, y)", "(fun (x: Int) -> x)(^x)",
			"{b = ^x, a = y}", "{a = 1, b = ^x, c = true.a}", "^x.a", "@a(^x)", "@a(@b({c = ^x}))",
			"^[1] of Z", "^[x, true.a] of [Z]", "[^x, true] of Int", "[1, ^x, true] of Int",
			"^if x then y else z as Z", "^if 1 then 2 else 3 as Z", "if ^x then true else false as Int", "if true then ^x else true as Int", "if true then 1 else ^x as Int",
			"^case 1 of {a(x: Int) -> true} as Z", "^case 1 of {a(x: Z) -> true} as Int", "^case x of {a(x: Int) -> y | b(x: Z) -> z} as Int", "case ^x of {a(x: Int) -> true} as Int", "case @a(1) of {a(x: Int) -> ^y | b(y: Int) -> true} as Int", "case @a(1) of {a(x: Int) -> x | b(y: Int) -> ^x} as Int", "case @a(1) of {a(x: Int) -> 1 | b(y: Int) -> ^x} as Int", "case @a(^x) of {a(x: Int) -> x} as Int", "case q/any of {a(b: Int) -> ^a} as Int", "add(case q/any of {a(x: Int) -> x} as Int, ^x)",
			"let x = ^x in x", "let x = ^y in true.a", "let x = 1 in ^y", "add(let x = 1 in x, ^x)", "let x = 1 in ^q/x",
			"^(x as Z)", "^(1 as q/Pair)", "(^x as Text)", "{a = ^(1 as {a: Int, b: Z})}",
			"^new Z(x)", "^new Pair(pair)", "^new Num(1)", "^new Opt(q/opt)", "^new Z(true.a)", "new K(^x)", "^raw Z(x)", "^raw Num(1)", "raw K(^x)", "{a = 1, b = ^raw Z(1)}",
		},
		api.ErrType: {
			"add(1, ^true)", "add(^true, 1)", "add(^true, x)", "add(^pair, true)", "add(1, ^add)", "cat(\"a\", ^1)", "not(^1)", "q/make(^1)", "q/make({a = ^pair.z})", "each(^fun (x: Text) -> 1, q/any)", "each(^fun () -> 1, q/any)", "each(fun (x: Int) -> x, ^[] of Text)", "(fun (x: {a: Int}) -> x)(^{})", "(fun (x: <a: Int>) -> x)(^@b(1))", "(fun (x: K) -> x)(^q/key)", "(fun (x: K) -> x)(^1)", "add(1, ^(true as Bool))", "add(1, (^1 as Bool))",
			"^true(1)", "^pair(1)", "^pair(x)", "^q/opt(1)", "^key(1)", "^\"a\"()", "^q/rows(1)", "^add()", "^add(1)", "^add(x)", "^add(1, 2, 3)", "^none(1)", "^show()", "{a = q/any(1, ^true.a, x)}",
			"^pair.z", "^q/opt.none", "^add.x", "^key.n", "^q/rows.a", "^\"a\".a", "^{}.a", "{a = 1, b = ^pair.xy}", "{a = ^true.a, b = x}", "@a(^{a = 1}.b)",
			"[^true] of Int", "[1, ^true, x] of Int", "[^{}] of {a: Int}", "[1, 2, ^\"a\"] of Num", "[^@c(1)] of <a: Int | b: Int>",
			"if ^1 then 2 else 3 as Int", "if ^1 then x else y as Int", "if true then ^true else x as Int", "if true then ^{} else 1 as Int", "if true then 1 else ^true as Int", "if ^pair then 1 else 2 as Any",
			"case ^1 of {} as Int", "case ^{} of {} as Int", "case ^{a = 1} of {a(x: Int) -> y} as Int", "case ^@b(1) of {a(x: Int) -> y} as Int", "case ^@a(true) of {a(x: Int) -> y} as Int", "case ^q/opt of {some(x: Int) -> y} as Int", "case ^q/opt of {} as Int", "case ^key of {a(x: Int) -> 1} as Int", "case ^fun () -> 1 of {} as Int",
			"case @a(1) of {a(x: Int) -> ^true | b(y: Int) -> z} as Int", "case @a(1) of {a(x: Int) -> x | b(y: Text) -> ^y} as Int", "case q/any of {a(x: Int) -> x | b(x: Text) -> size(x) | c(x: Bool) -> ^x} as Int", "case @a(1) of {a(pair: Int) -> ^pair.x} as Int",
			"let x = ^true.a in y", "let x = true in add(1, ^x)", "let add = 1 in ^add(1, 2)", "let x = 1 in let x = true in add(1, ^x)",
			"(^1 as Text)", "(^1 as K)", "(^key as Int)", "(^q/key as K)", "(^key as q/K)", "(^{} as {a: Any})", "(^@a(1) as <>)", "(^add as (Int) -> Int)", "({a = 1, b = (^2 as Text)} as Int)",
			"new K(^true)", "new K(^key)", "new Box(^{n = 1})", "new Box(^1)", "raw K(^1)", "raw K(^q/key)", "raw Box(^key)", "raw K(^raw K(key))", "new K(raw Box(^1))",
		},
	} {
		for _, text := range l {
			u, at := marked(text)
			wantFault(t, u, world(), err, at)
			wantModel(t, u, world())
			wantModel(t, sample.Placed(u, 7), world())
		}
	}
}

// TestPlaces: P14.2, the fault of a call or of a field is at its own place, also where that is not the place of its first part.
func TestPlaces(t *testing.T) {
	value := func(name string, at int) api.Term { return api.Term{Kind: api.TmVar, Name: name, At: at} }
	wantFault(t, api.Term{Kind: api.TmCall, At: 9, Parts: []api.Term{value("add", 4)}}, world(), api.ErrType, 9)
	wantFault(t, api.Term{Kind: api.TmCall, At: 9, Parts: []api.Term{value("pair", 4), value("x", 5)}}, world(), api.ErrType, 9)
	wantFault(t, api.Term{Kind: api.TmCall, At: 9, Parts: []api.Term{value("x", 4), value("y", 2)}}, world(), api.ErrName, 4)
	wantFault(t, api.Term{Kind: api.TmCall, At: 9, Parts: []api.Term{value("show", 4), value("pair", 2)}}, world(), api.ErrType, 2)
	wantFault(t, api.Term{Kind: api.TmField, Name: "z", At: 3, Parts: []api.Term{value("pair", 8)}}, world(), api.ErrType, 3)
	wantFault(t, api.Term{Kind: api.TmField, Name: "z", At: 3, Parts: []api.Term{value("z", 8)}}, world(), api.ErrName, 8)
}

// TestBinds: P14.2, what a name stands for is the last bind with that Of and that Name, of an own type's that Name; names bound in an expression stand behind all of them.
func TestBinds(t *testing.T) {
	env := api.Env{
		Self:   "p",
		Types:  []api.Bind{bind("A", "Text"), bind("q/A", "Bool"), bind("A", "{b: Int, a: Int}"), bind("B", "[Z]"), bind("p/A", "Any")},
		Values: []api.Bind{bind("x", "Text"), bind("q/x", "Bool"), bind("x", "Int"), bind("p/x", "Any"), bind("y", "Int"), bind("y", "{b: q/Z, a: Z}"), bind("q/z", "Int")},
		Own:    []api.Bind{bind("A", "Text"), bind("q/A", "Int"), bind("B", "Int"), bind("B", "{b: Int, a: C}"), bind("q/C", "Bool")},
	}
	for _, c := range [][2]string{
		{"x", "Int"}, {"q/x", "Bool"}, {"p/x", "Any"}, {"y", "{a: Z, b: q/Z}"}, {"let x = true in {a = x, b = q/x, c = p/x}", "{a: Bool, b: Bool, c: Any}"}, {"fun (x: A, z: q/A) -> {x = x, z = z, q = q/z}", "({a: Int, b: Int}, Bool) -> {q: Int, x: {a: Int, b: Int}, z: Bool}"},
		{"[] of A", "[{a: Int, b: Int}]"}, {"[] of q/A", "[Bool]"}, {"[] of p/A", "[Any]"}, {"[] of B", "[[Z]]"}, {"fun (x: B) -> (x as B)", "([Z]) -> [Z]"}, {"fun (k: p/A) -> raw A(k)", "(Any) -> Int"}, {"fun (k: p/A) -> raw B(k)", "(Any) -> {a: C, b: Int}"}, {"fun (k: p/A) -> raw C(k)", "(Any) -> Bool"},
	} {
		want(t, sample.Term(c[0]), env, sample.Type(c[1]), api.Fault{})
	}
	for name, made := range map[string]string{"A": "1", "B": "{a = p/x, b = 2}", "C": "true"} {
		want(t, sample.Term("new "+name+"("+made+")"), env, api.Shape{Kind: api.ShOpaque, Of: "p", Name: name}, api.Fault{})
	}
	wantFault(t, sample.Term(`new A("")`), env, api.ErrType, 6)
	wantFault(t, sample.Term("new B(1)"), env, api.ErrType, 6)
	wantFault(t, sample.Term("z"), env, api.ErrName, 0)
	wantFault(t, sample.Term("[] of Z"), env, api.ErrName, 0)
	// Names that look like others are none of them.
	odd := api.Env{Values: []api.Bind{{Name: "q/x", Shape: sample.Int()}, {Of: "q/", Name: "x", Shape: sample.Int()}, {Of: "q", Name: "/x", Shape: sample.Int()}, {Of: "x", Shape: sample.Int()}, {Name: "xq", Shape: sample.Int()}, {Of: " ", Name: "x", Shape: sample.Int()}, {Name: "X", Shape: sample.Int()}}}
	wantFault(t, sample.Term("q/x"), odd, api.ErrName, 0)
	wantFault(t, sample.Term("x"), odd, api.ErrName, 0)
	want(t, sample.Term("{a = 1}"), api.Env{}, sample.Type("{a: Int}"), api.Fault{})
}

// TestCheck: P14.2, of an expression that may not be terms' Check's error, at 0, ahead of all others.
func TestCheck(t *testing.T) {
	one, many := sample.Placed(sample.Term("x"), 5), api.Term{Kind: api.TmCall, At: 5, Parts: make([]api.Term, 4096)}
	for i := range many.Parts {
		many.Parts[i] = one
	}
	for _, u := range []api.Term{{}, {Kind: 99, At: 5}, {Kind: api.TmInt, N: -1, At: 5}, {Kind: api.TmVar, Name: "X", At: 5}, {Kind: api.TmVar, Name: "x", At: -1}, {Kind: api.TmLet, Name: "x", At: 5, Parts: []api.Term{one}}, {Kind: api.TmCall, At: 5}, {Kind: api.TmIf, At: 5, Parts: []api.Term{one, one, one}}, {Kind: api.TmRecord, At: 5, Names: []string{"a", "a"}, Parts: []api.Term{one, one}}, {Kind: api.TmFun, At: 5, Names: []string{"a", "a"}, Shapes: []api.Shape{sample.Int(), sample.Int()}, Parts: []api.Term{one}}, {Kind: api.TmAs, At: 5, Parts: []api.Term{one}, Shapes: []api.Shape{{Kind: api.ShOpaque, Of: "p", Name: "K"}}}, {Kind: api.TmNew, Name: "k", At: 5, Parts: []api.Term{one}}} {
		wantFault(t, u, world(), api.ErrTerm, 0)
		wantFault(t, api.Term{Kind: api.TmCase, Name: "a", At: 3, Parts: []api.Term{u}}, world(), api.ErrTerm, 0)
		wantFault(t, api.Term{Kind: api.TmRecord, Names: []string{"a", "b"}, At: 3, Parts: []api.Term{one, u}}, world(), api.ErrTerm, 0)
	}
	wantFault(t, many, world(), api.ErrBig, 0)
	many.Parts = many.Parts[:4095]
	wantFault(t, many, world(), api.ErrName, 5)
	deep := one
	for range 39 {
		deep = api.Term{Kind: api.TmCase, Name: "a", At: 3, Parts: []api.Term{deep}}
	}
	wantFault(t, deep, world(), api.ErrName, 5)
	wantFault(t, api.Term{Kind: api.TmCase, Name: "a", At: 3, Parts: []api.Term{deep}}, world(), api.ErrDeep, 0)
	own := api.Term{Kind: api.TmCase, Name: "a", At: 3, Parts: make([]api.Term, 1)}
	own.Parts[0] = own
	wantFault(t, own, world(), api.ErrBig, 0)
}

// great is an environment with values and types that are as great as may be (all, deepest) and ones with one part or level less.
func great() api.Env {
	env, i := world(), sample.Int()
	for name, s := range map[string]api.Shape{"all": sample.Numbered(api.ShRecord, 1000, 399, i), "most": sample.Numbered(api.ShRecord, 1000, 398, i), "deepest": sample.Within(i, 39), "deeper": sample.Within(i, 38)} {
		env.Values = append(env.Values, api.Bind{Name: name, Shape: s})
		env.Types = append(env.Types, api.Bind{Name: strings.ToUpper(name), Shape: s})
		env.Own = append(env.Own, api.Bind{Name: strings.ToUpper(name), Shape: s})
	}
	return env
}

// TestLimits: P14.2, a type with one part or one level more than may be is a fault at the place of the part that has it, wherever it stands; X and x are a type and a value.
func TestLimits(t *testing.T) {
	for _, c := range []struct {
		less, more string
		err        api.Errno
	}{{"most", "all", api.ErrBig}, {"deeper", "deepest", api.ErrDeep}} {
		put := func(text, name string) (api.Term, int) {
			return marked(strings.NewReplacer("X", strings.ToUpper(name), "x", name).Replace(text))
		}
		for _, text := range []string{"x", "(x as X)", "let y = x in y", "if true then x else x as X", "q/any(x, x)", "case q/any of {} as X", "raw X(q/any)", "new X(x)", "case @a(1) of {a(y: Int) -> x} as X", "(q/any as X)", "case q/any of {a(y: Any) -> x} as X", "let y = x in 1"} {
			for _, name := range []string{c.less, c.more} {
				u, _ := put(text, name)
				if _, fault := wantModel(t, u, great()); fault != (api.Fault{}) {
					t.Error(text, name, fault)
				}
			}
		}
		for _, text := range []string{"^{a = x}", "{b = 1, c = ^{a = x}}", "^@a(x)", "^fun () -> x", "fun (y: Int) -> let z = 1 in ^@a(x)", "^fun (y: X) -> y", "{b = ^fun (y: X) -> 1, c = 1}", "^[] of X", "let y = ^[x, x] of X in 1", "^[1] of [X]", "{b = 1, c = ^(1 as {a: X})}", "^if 1 then 1 else 1 as [X]", "(^{a = x}.a as X)", "q/any(1, ^@a(x), true.a)", "let y = @a(^{a = x}) in true.a", "add(^{a = x}, 1)", "new K(^{a = x})", "case @a(1) of {a(y: Int) -> ^{a = x}} as Int", "if ^[x] of X then 1 else 1 as Int"} {
			u, at := put(text, c.more)
			wantFault(t, u, great(), c.err, at)
			wantModel(t, sample.Placed(u, 7), great())
			if c.less == "most" && strings.Contains(text, "fun (y: X)") {
				continue
			}
			u, _ = put(text, c.less)
			if _, fault := wantModel(t, u, great()); fault == (api.Fault{Err: c.err, At: at}) {
				t.Error(text, fault)
			}
		}
		// To a choice by cases that are too great nothing is near.
		u, _ := put("case q/any of {a(y: X) -> 1} as Int", c.less)
		want(t, u, great(), sample.Int(), api.Fault{})
		u, at := put("case ^q/any of {a(y: X) -> true} as Int", c.more)
		wantFault(t, u, great(), api.ErrType, at)
	}
	// Too great goes ahead of too deep.
	wantFault(t, sample.Term("{a = all, b = deepest}"), great(), api.ErrBig, 0)
	wantFault(t, sample.Term("{a = @a(deepest), b = {a = all}}"), great(), api.ErrDeep, 5)
}

// TestGreat: P14.2, functions of as many parts, and records of as many fields, as may be, and of more.
func TestGreat(t *testing.T) {
	for _, n := range []int{0, 1, 2, 397, 398, 399, 400, 401, 402} {
		names := sample.Numbered(api.ShRecord, 1000, n, sample.Int()).Names
		fun := api.Term{Kind: api.TmFun, At: 5, Names: names, Shapes: slices.Repeat([]api.Shape{sample.Int()}, n), Parts: []api.Term{{Kind: api.TmTrue, At: 8}}}
		record := api.Term{Kind: api.TmRecord, At: 5, Names: names, Parts: slices.Repeat([]api.Term{{Kind: api.TmInt, At: 8}}, n)}
		for kind, u := range map[int]api.Term{2: fun, 1: record} {
			if _, fault := wantModel(t, u, world()); (fault == api.Fault{Err: api.ErrBig, At: 5}) != (n+kind > 400) {
				t.Error(kind, n, fault)
			}
		}
	}
	for _, n := range []int{400, 100000} {
		fun := api.Term{Kind: api.TmFun, At: 5, Shapes: slices.Repeat([]api.Shape{sample.Int()}, n), Parts: []api.Term{{Kind: api.TmCall, At: 8, Parts: slices.Repeat([]api.Term{{Kind: api.TmVar, Name: "n1000", At: 9}}, 2)}}}
		fun.Names = sample.Numbered(api.ShRecord, 1000, n, sample.Int()).Names
		wantFault(t, fun, world(), api.ErrType, 8)
		fun.Parts = fun.Parts[0].Parts[:1]
		wantFault(t, fun, world(), api.ErrBig, 5)
	}
}

// TestWrong: P14.2, whatever the types of the environment: what is told may be, or there is a fault.
func TestWrong(t *testing.T) {
	key := api.Bind{Name: "key", Shape: api.Shape{Kind: api.ShOpaque, Of: "p", Name: "K"}}
	any := bind("any", "Any")
	for _, s := range append(sample.Wrong(), sample.Endless()...) {
		err := shape.Check(s)
		values := api.Env{Self: "p", Values: []api.Bind{any, {Name: "x", Shape: s}}}
		for _, text := range []string{"^x", "{a = 1, b = ^x}", "let y = ^x in 1", "^x.a", "any(^x)", "(^x as Any)", "[^x] of Any", "@a(^x)", "fun () -> ^x"} {
			u, at := marked(text)
			wantFault(t, u, values, err, at)
		}
		for text, told := range map[string]string{"1": "Int", "{a = any}": "{a: Any}", "fun (x: Int) -> x": "(Int) -> Int", "let x = 1 in x": "Int", "case any of {a(x: Int) -> x} as Int": "Int"} {
			want(t, sample.Term(text), values, sample.Type(told), api.Fault{})
		}
		types := api.Env{Self: "p", Types: []api.Bind{{Name: "X", Shape: s}}, Values: []api.Bind{any}}
		for _, text := range []string{"^[y] of X", "{a = 1, b = ^fun (x: Int, y: X) -> z}", "^(y as X)", "^if y then y else y as X", "^case y of {a(x: X) -> y} as Int", "^case y of {a(x: Int) -> y} as X", "^case y of {a(x: Int) -> y | b(y: X) -> x} as Z"} {
			u, at := marked(text)
			wantFault(t, u, types, err, at)
		}
		want(t, sample.Term("[any] of Int"), types, sample.Type("[Int]"), api.Fault{})
		own := api.Env{Self: "p", Own: []api.Bind{{Name: "K", Shape: s}}, Values: []api.Bind{any, key}}
		for text, err := range map[string]api.Errno{"new K(^any)": api.ErrType, "new K(^1)": api.ErrType, "new K(^y)": api.ErrName, "^raw K(any)": err, "{a = 1, b = ^raw K(key)}": err, "raw K(^1)": api.ErrType, "raw K(^y)": api.ErrName, "let x = ^raw K(key) in y": err} {
			u, at := marked(text)
			wantFault(t, u, own, err, at)
		}
	}
	for _, self := range []string{"", "P", "let", "\xff", "q/p", strings.Repeat("a", 25)} {
		env := api.Env{Self: self, Own: []api.Bind{bind("K", "Int")}, Values: []api.Bind{any}}
		for text, err := range map[string]api.Errno{"{a = 1, b = ^new K(1)}": api.ErrShape, "^new K(any)": api.ErrShape, "new K(^true)": api.ErrType, "new K(^y)": api.ErrName, "raw K(^any)": api.ErrType, "^new Z(1)": api.ErrName} {
			u, at := marked(text)
			wantFault(t, u, env, err, at)
			wantModel(t, sample.Placed(u, 7), env)
		}
		want(t, sample.Term("{a = 1}"), env, sample.Type("{a: Int}"), api.Fault{})
	}
}

// TestEmpty: rule 3, a list without an element may be nil or empty.
func TestEmpty(t *testing.T) {
	env := api.Env{Types: []api.Bind{}, Values: []api.Bind{{Name: "x", Shape: api.Shape{Kind: api.ShRecord, Names: []string{}, Parts: []api.Shape{}}}}, Own: []api.Bind{}}
	for text, told := range map[string]string{"{}": "{}", "1": "Int", "x": "{}", "{a = x}": "{a: {}}", "[] of {}": "[{}]", "fun () -> x": "() -> {}", "[x, x] of <>": "", "(x as {})": "{}", "case x of {} as Int": ""} {
		u := emptied(sample.Term(text))
		s, fault := wantModel(t, u, env)
		if told == "" && fault.Err != api.ErrType || told != "" && sample.Key(s) != sample.Key(sample.Type(told)) {
			t.Error(text, s, fault)
		}
	}
}

// emptied is an expression none of whose lists is nil.
func emptied(t api.Term) api.Term {
	t.Names, t.Vars = append([]string{}, t.Names...), append([]string{}, t.Vars...)
	t.Shapes, t.Parts = append([]api.Shape{}, t.Shapes...), append([]api.Term{}, t.Parts...)
	for i, part := range t.Parts {
		t.Parts[i] = emptied(part)
	}
	return t
}

// spoilt is an expression in which something is changed at some parts: a name, a type, how many parts there are.
func spoilt(pick sample.Pick, t api.Term, one int) api.Term {
	t = fresh.Term(t)
	for i, part := range t.Parts {
		t.Parts[i] = spoilt(pick, part, one)
	}
	if pick(one) > 0 {
		return t
	}
	other := func(l ...string) string { return l[pick(len(l))] }
	switch t.Kind {
	case api.TmVar:
		t.Of, t.Name = other("", "q"), other("x", "y", "pair", "any", "key", "each", "unknown")
	case api.TmCall:
		if t.Parts = t.Parts[:1+pick(len(t.Parts))]; pick(2) == 0 {
			t.Parts = append(t.Parts, t.Parts[0])
		}
	case api.TmField, api.TmCase:
		t.Name = other("a", "b", "none", "some", "x")
	case api.TmNew, api.TmRaw:
		t.Name = other("K", "Box", "Num", "Z")
	}
	if len(t.Shapes) > 0 {
		t.Shapes[pick(len(t.Shapes))] = sample.Type(other("Z", "Num", "{a: Z}", "K", "Any", "q/K", "<>", "[[Pair]]"))
	}
	return t
}

// anyValues are values of the world and others, in a world whose types are as they were.
func anyValues(m sample.Maker) api.Env {
	env := world()
	for _, b := range [][2]string{{"", "x"}, {"q", "x"}, {"", "y"}, {"q", "z"}} {
		env.Values = append(env.Values, api.Bind{Of: b[0], Name: b[1], Shape: m.Type(2)})
	}
	return env
}

// wantLaws asks for what follows from the chapter's words of an expression, which has that type or that fault.
func wantLaws(t *testing.T, m sample.Maker, u api.Term, s api.Shape, fault api.Fault) {
	t.Helper()
	if fault.Err == api.OK && (shape.Check(s) != api.OK || !shape.Closed(s) || sample.Key(shape.Sort(s)) != sample.Key(s)) {
		t.Errorf("%v is told of %v", s, u)
	}
	// P14.5, places change nothing but where faults are.
	bare, none := synth.Type(terms.Bare(u), m.Env)
	if sample.Key(bare) != sample.Key(s) || none != (api.Fault{Err: fault.Err}) {
		t.Errorf("%v, %v without places, not %v, %v", bare, none, s, fault)
	}
	// P14.5, nor do binds of names that do not stand in it.
	more, spoken := m.Env, spokenIn(u)
	more.Values = nil
	for _, b := range append(slices.Clone(m.Env.Values), api.Bind{}) {
		for _, other := range []api.Bind{bind("unspoken", "Int"), bind("q/add", "Any"), bind("q/x", "Int"), bind("pair", "Any"), bind("any", "K"), bind("q/unknown", "Int"), {Of: "q", Name: "A", Shape: api.Shape{Kind: 77}}} {
			if _, ok := spoken[[2]string{other.Of, other.Name}]; !ok && m.Pick(3) == 0 {
				more.Values = append(more.Values, other)
			}
		}
		more.Values = append(more.Values, b)
	}
	want(t, u, more, s, fault)
}

// spokenIn are the names of values that stand in an expression.
func spokenIn(t api.Term) map[[2]string]struct{} {
	spoken := map[[2]string]struct{}{}
	for l := []api.Term{t}; len(l) > 0; l = l[1:] {
		spoken[[2]string{l[0].Of, l[0].Name}] = struct{}{}
		for _, name := range append(slices.Clone(l[0].Names), l[0].Vars...) {
			spoken[[2]string{"", name}] = struct{}{}
		}
		l = append(l, l[0].Parts...)
	}
	return spoken
}

// TestMany: P14.2 to P14.5 of many expressions, right ones and such as have faults, against the model.
func TestMany(t *testing.T) {
	m := sample.Maker{Pick: rand.New(rand.NewSource(14)).Intn, Env: world()}
	count := map[api.Errno]int{}
	for range 6000 {
		m.Slip = []int{0, 0, 40, 12}[m.Pick(4)]
		m.Env = anyValues(m)
		u := m.Term(m.Type(2), m.Pick(4))
		if m.Pick(2) == 0 {
			u = spoilt(m.Pick, u, 6)
		}
		u = sample.Placed(u, 7)
		s, fault := wantModel(t, u, m.Env)
		wantLaws(t, m, u, s, fault)
		count[fault.Err]++
	}
	for err, least := range map[api.Errno]int{api.OK: 2500, api.ErrType: 900, api.ErrName: 300, api.ErrTerm: 0} {
		if count[err] < least {
			t.Error("too few", err, count)
		}
	}
}

// ofValue is an expression of a value that may have another type: of itself, of a field, of what it tells, or of one of its type.
func ofValue(m sample.Maker) api.Term {
	l := m.Env.Values[len(synth.Base()):]
	b := l[m.Pick(len(l))]
	value := api.Term{Kind: api.TmVar, Of: b.Of, Name: b.Name}
	switch {
	case m.Pick(2) == 0:
		return value
	case b.Shape.Kind == api.ShRecord && len(b.Shape.Names) > 0:
		return api.Term{Kind: api.TmField, Name: b.Shape.Names[0], Parts: []api.Term{value}}
	case b.Shape.Kind == api.ShFun:
		u := api.Term{Kind: api.TmCall, Parts: []api.Term{value}}
		for _, part := range b.Shape.Parts[:len(b.Shape.Parts)-1] {
			u.Parts = append(u.Parts, m.Term(part, 1))
		}
		return u
	}
	return m.Term(b.Shape, 2)
}

// TestWeaker: P14.3, with values of types below those that were there an expression that had a type has one below it.
func TestWeaker(t *testing.T) {
	m := sample.Maker{Pick: rand.New(rand.NewSource(3)).Intn, Env: world()}
	lower := 0
	for range 4000 {
		m.Env = anyValues(m)
		u := api.Term{Kind: api.TmRecord, Names: []string{"b", "a"}, Parts: []api.Term{ofValue(m), m.Term(m.Type(1), m.Pick(4))}}
		s, fault := synth.Type(u, m.Env)
		weaker := m.Env
		weaker.Values = fresh.Binds(m.Env.Values)
		for i, b := range weaker.Values {
			weaker.Values[i].Shape = m.Lowered(b.Shape, false)
			if !subtype.Below(weaker.Values[i].Shape, b.Shape) {
				t.Fatal(weaker.Values[i], b)
			}
		}
		below, faultBelow := wantModel(t, u, weaker)
		if fault.Err != api.OK || faultBelow.Err == api.ErrBig || faultBelow.Err == api.ErrDeep {
			continue
		}
		if faultBelow.Err != api.OK || !subtype.Below(below, s) {
			text, _ := terms.Show(u)
			t.Errorf("%s: %v, %v is not below %v", text, below, faultBelow, s)
		}
		if !shape.Same(below, s) {
			lower++
		}
	}
	if lower < 300 {
		t.Error("too few", lower)
	}
}

// TestNew: rule 4, what is handed in is left as it is, and each list of what is handed out is new.
func TestNew(t *testing.T) {
	m := sample.Maker{Pick: rand.New(rand.NewSource(4)).Intn, Env: roomy(anyValues(sample.Maker{Pick: rand.New(rand.NewSource(5)).Intn, Env: world()}))}
	before := opened(m.Env)
	var all []api.Term
	for _, text := range []string{"pair", "{a = pair, b = pair}", "fun (x: Pair, y: Pair) -> x", "let x = pair in {a = x, b = {a = x, b = x}}", "[pair] of Pair", "case q/any of {a(x: Pair) -> x} as Pair", "raw Box(q/any)", "{a = raw Box(q/any), b = raw Box(q/any)}", "(pair as Pair)", "each", "q/rows", "fun () -> fun () -> q/opt", "@a(q/opt)", "fun (x: Pair) -> {x = x, y = x}", "if q/any then pair else pair as {x: Int}", "new Box(q/any)", "{a = fun (x: {}) -> x, b = {}}"} {
		all = append(all, sample.Term(text))
	}
	for range 1500 {
		all = append(all, m.Term(m.Type(2), 2))
	}
	for _, u := range all {
		u = sample.RoomyTerm(u)
		whole, memory := sample.OpenedTerm(u), sample.MemoryOf()
		memory.AddTerm(u)
		for _, l := range lists(m.Env) {
			memory.AddBinds(l)
		}
		s, fault := synth.Type(u, m.Env)
		if memory.Taken(s) {
			t.Fatalf("%v of %v is not new", s, u)
		}
		kept := fresh.Shape(s)
		sample.Scratch(s)
		want(t, u, m.Env, kept, fault)
		if !reflect.DeepEqual(sample.OpenedTerm(u), whole) {
			t.Fatalf("%v was changed", whole)
		}
	}
	if !reflect.DeepEqual(opened(m.Env), before) {
		t.Error("the environment was changed")
	}
}
