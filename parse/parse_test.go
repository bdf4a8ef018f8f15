package parse_test

import (
	"math"
	"math/rand"
	"slices"
	"strconv"
	"strings"
	"testing"

	"pandect/api"
	"pandect/lex"
	"pandect/parse"
	"pandect/shape"
	"pandect/terms"
)

// Types that stand in the tests below.
var (
	integer = api.Shape{Kind: api.ShInt}
	key     = api.Shape{Kind: api.ShName, Name: "Key"}
	ident   = api.Shape{Kind: api.ShName, Of: "q", Name: "Id"}
	pair    = api.Shape{Kind: api.ShRecord, Names: []string{"b", "a"}, Parts: []api.Shape{integer, key}}

	longest      = "a" + strings.Repeat("z", 23)
	longestUpper = "A" + strings.Repeat("z", 23)
)

func list(s api.Shape) api.Shape { return api.Shape{Kind: api.ShList, Parts: []api.Shape{s}} }

// typeSamples are types that may be, by their texts.
func typeSamples() map[string]api.Shape {
	return map[string]api.Shape{
		"Int": integer, "Bool": {Kind: api.ShBool}, "Text": {Kind: api.ShText}, "Any": {Kind: api.ShAny}, "Key": key, "List": {Kind: api.ShName, Name: "List"}, "I": {Kind: api.ShName, Name: "I"}, "INT": {Kind: api.ShName, Name: "INT"}, longestUpper: {Kind: api.ShName, Name: longestUpper},
		"q/Id": ident, "q/Int": {Kind: api.ShName, Of: "q", Name: "Int"}, "q/Any": {Kind: api.ShName, Of: "q", Name: "Any"}, longest + "/" + longestUpper: {Kind: api.ShName, Of: longest, Name: longestUpper},
		"[Int]": list(integer), "[[q/Id]]": list(list(ident)),
		"{}": {Kind: api.ShRecord}, "{b: Int, a: Key}": pair, "{b: Int}": {Kind: api.ShRecord, Names: []string{"b"}, Parts: []api.Shape{integer}}, "{a: {a: Int}, b: {a: Int}}": {Kind: api.ShRecord, Names: []string{"a", "b"}, Parts: []api.Shape{{Kind: api.ShRecord, Names: []string{"a"}, Parts: []api.Shape{integer}}, {Kind: api.ShRecord, Names: []string{"a"}, Parts: []api.Shape{integer}}}},
		"<>": {Kind: api.ShVariant}, "<none: {} | some: q/Id>": {Kind: api.ShVariant, Names: []string{"none", "some"}, Parts: []api.Shape{{Kind: api.ShRecord}, ident}}, "<a: <a: Int>>": {Kind: api.ShVariant, Names: []string{"a"}, Parts: []api.Shape{{Kind: api.ShVariant, Names: []string{"a"}, Parts: []api.Shape{integer}}}},
		"() -> Int": {Kind: api.ShFun, Parts: []api.Shape{integer}}, "(Int) -> Key": {Kind: api.ShFun, Parts: []api.Shape{integer, key}}, "() -> () -> Int": {Kind: api.ShFun, Parts: []api.Shape{{Kind: api.ShFun, Parts: []api.Shape{integer}}}}, "((Int) -> Key, q/Id) -> [Int]": {Kind: api.ShFun, Parts: []api.Shape{{Kind: api.ShFun, Parts: []api.Shape{integer, key}}, ident, list(integer)}},
	}
}

// termSamples are sources that are expressions, each written as its own text, of each kind, with lists as long as they may be and as short.
var termSamples = []string{
	"0", "7", "999999999999999", `""`, `"a"`, `"é\n\t\"\\ -- ("`, "true", "false", "x", "q/f", "f/q", longest + "/" + longest,
	"fun () -> x", "fun (x: Int) -> x", "fun (x: Int, y: {b: Int, a: Key}, z: () -> q/Id) -> fun (x: Int) -> x", "x()", "x(1)", "x(x, 1, x())", "x()()(1)", "(1)(1)", "(fun () -> x)()", "([] of Int)(1)", "(let x = 1 in x)()", `"a"()`, "true(false)", "{}()", "@a(1)(2)", "new K(1)(2)", "(x as Int)(1)",
	"{}", "{a = 1}", "{b = {a = 1}, a = {a = x}}", "x.a", "x.a.b", "x(1).a(2).b", "(1).a", "q/f.a", "{a = 1}.a", "(if x then x else x as Int).a", "(case x of {} as Int).a", "@some(1)", "@none({})", "@a(@a(let x = 1 in x))",
	"[] of Int", "[1] of q/Id", "[x, [] of Int, fun () -> 1] of [<a: Int | b: Any>]", "if x then 1 else 0 as Int", "if if x then x else x as Bool then 1 else if x then 1 else 1 as Int as Key", "case x of {} as Int", "case x of {a(y: Int) -> y} as Int", "case x of {b(y: Int) -> fun () -> y | a(y: {b: Int}) -> 1 | c(x: Key) -> case x of {b(x: Int) -> 1} as Int} as () -> Int",
	"let x = 1 in x", "let x = let x = 1 in x in let y = x in y", "(x as Int)", "((x as Int) as Any)", "(fun () -> x as () -> Int)", "(if x then 1 else 1 as Int as Any)", "(let x = 1 in x as <a: Int | b: q/Id>)", "new K(1)", "raw K(x)", "new Int(raw Any(1))", "new " + longestUpper + "(raw " + longestUpper + "(x))",
}

// scanned are a source's tokens but for the TokEnd.
func scanned(t *testing.T, s string) []api.Token {
	t.Helper()
	l, f := lex.Scan(s)
	if f != (api.Fault{}) {
		t.Fatalf("Scan(%.80q): fault %d at %d", s, int(f.Err), f.At)
	}
	return l[:len(l)-1]
}

// texts are tokens' kinds and texts but for ( and ).
func texts(l []api.Token) []api.Token {
	var bare []api.Token
	for _, t := range l {
		if t.Kind != api.TokSign || t.Text != "(" && t.Text != ")" {
			bare = append(bare, api.Token{Kind: t.Kind, Text: t.Text})
		}
	}
	return bare
}

// wantType asks Type of tokens from one on, against the model; of what is read it asks whether it may be and its text is the tokens (P9.5).
func wantType(t *testing.T, l []api.Token, at int) {
	t.Helper()
	s, behind, f := parse.Type(l, at)
	if want, fault := modelRead("type", l, at); behind != want || f != fault {
		t.Fatalf("Type(%v, %d): behind %d, fault %d at %d, want %d, fault %d at %d", l, at, behind, int(f.Err), f.At, want, int(fault.Err), fault.At)
	}
	if f.Err != api.OK {
		if !sameShape(s, api.Shape{}) {
			t.Fatalf("Type(%v, %d) = %v with fault %d", l, at, s, int(f.Err))
		}
		return
	}
	text, err := shape.Show(s)
	if back, f := parse.TypeText(text); err != api.OK || f != (api.Fault{}) || !sameShape(back, s) || !slices.Equal(texts(scanned(t, text)), texts(l[at:behind])) {
		t.Fatalf("Type(%v, %d) = %v, whose text is %q, error %d, read as %v, fault %d at %d", l, at, s, text, int(err), back, int(f.Err), f.At)
	}
}

// wantTerm asks Term likewise.
func wantTerm(t *testing.T, l []api.Token, at int) {
	t.Helper()
	u, behind, f := parse.Term(l, at)
	if want, fault := modelRead("expr", l, at); behind != want || f != fault {
		t.Fatalf("Term(%v, %d): behind %d, fault %d at %d, want %d, fault %d at %d", l, at, behind, int(f.Err), f.At, want, int(fault.Err), fault.At)
	}
	if f.Err != api.OK {
		if !sameTerm(u, api.Term{}) {
			t.Fatalf("Term(%v, %d) = %v with fault %d", l, at, u, int(f.Err))
		}
		return
	}
	text, err := terms.Show(u)
	if back, f := parse.TermText(text); err != api.OK || f != (api.Fault{}) || !terms.Same(back, u) || !slices.Equal(texts(scanned(t, text)), texts(l[at:behind])) {
		t.Fatalf("Term(%v, %d) = %v, whose text is %q, error %d, read as %v, fault %d at %d", l, at, u, text, int(err), back, int(f.Err), f.At)
	}
}

// wantTypeFault asks TypeText of a source with a fault.
func wantTypeFault(t *testing.T, s string, err api.Errno, at int) {
	t.Helper()
	if u, f := parse.TypeText(s); f != (api.Fault{Err: err, At: at}) || !sameShape(u, api.Shape{}) {
		t.Errorf("TypeText(%.200q) = %.200v, fault %d at %d, want %d at %d", s, u, int(f.Err), f.At, int(err), at)
	}
}

// wantTermFault asks TermText likewise.
func wantTermFault(t *testing.T, s string, err api.Errno, at int) {
	t.Helper()
	if u, f := parse.TermText(s); f != (api.Fault{Err: err, At: at}) || !sameTerm(u, api.Term{}) {
		t.Errorf("TermText(%.200q) = %.200v, fault %d at %d, want %d at %d", s, u, int(f.Err), f.At, int(err), at)
	}
}

// wantTree asks TermText of a source, whose expression is told with all places.
func wantTree(t *testing.T, s string, want api.Term) {
	t.Helper()
	if u, f := parse.TermText(s); f != (api.Fault{}) || !sameTerm(u, want) {
		t.Errorf("TermText(%q) = %v, fault %d at %d, want %v", s, u, int(f.Err), f.At, want)
	}
}

// placed are tokens at places of their own.
func placed(l []api.Token) []api.Token {
	l = slices.Clone(l)
	for i := range l {
		l[i].At = 3*i + 5
	}
	return l
}

// everyList hands out all lists of at most n tokens all of which but the last one fit a rule.
func everyList(name string, tokens []api.Token, n int, take func([]api.Token)) {
	var grow func(l []api.Token, open []*node, n int)
	grow = func(l []api.Token, open []*node, n int) {
		take(placed(l))
		if n == 0 {
			return
		}
		for _, token := range tokens {
			longer := append(slices.Clone(l), token)
			next, did := step(open, token)
			if did == taken {
				grow(longer, next, n-1)
				continue
			}
			take(placed(longer))
		}
	}
	grow(nil, []*node{rules[name]}, n)
}

// tokensOf are the tokens of sources, each once.
func tokensOf(t *testing.T, sources ...string) []api.Token {
	var l []api.Token
	for _, s := range sources {
		for _, token := range scanned(t, s) {
			token.At = 0
			if !slices.Contains(l, token) {
				l = append(l, token)
			}
		}
	}
	return l
}

// TestTypeExamples: P9.1, P9.3, the chapter's examples.
func TestTypeExamples(t *testing.T) {
	want := api.Shape{Kind: api.ShFun, Parts: []api.Shape{integer, list(key), {Kind: api.ShRecord, Names: []string{"a"}, Parts: []api.Shape{ident}}}}
	if s, f := parse.TypeText("(Int, [Key]) -> {a: q/Id}"); f != (api.Fault{}) || !sameShape(s, want) {
		t.Error(s, f)
	}
	wantTypeFault(t, "{a: Int, a: Int}", api.ErrTwice, 9)
	wantTypeFault(t, "[Int", api.ErrSyntax, 4)
}

// TestTypeSamples: P9.1, P9.3, P9.4, types of each kind, alone, with blanks between, and within a list of tokens.
func TestTypeSamples(t *testing.T) {
	ahead := []api.Token{{Kind: api.TokSign, Text: "["}, {Kind: 77, Text: "?", At: -3}}
	for text, want := range typeSamples() {
		l := scanned(t, text)
		for _, s := range []string{text, " \n" + text + "\t-- Int", strings.NewReplacer(",", " , ", ":", "\n:\n", "/", " / ", "[", "[ ").Replace(text)} {
			if got, f := parse.TypeText(s); f != (api.Fault{}) || !sameShape(got, want) {
				t.Errorf("TypeText(%q) = %v, fault %d at %d, want %v", s, got, int(f.Err), f.At, want)
			}
		}
		if shown, err := shape.Show(want); shown != text || err != api.OK {
			t.Errorf("the text of %v is %q, not %q", want, shown, text)
		}
		for _, behind := range [][]api.Token{nil, {{}}, {{Kind: api.TokSign, Text: "]"}}, {{Kind: api.TokSign, Text: "/"}, {}}, {{Kind: api.TokUpper, Text: "Int"}}, {{Kind: -1}}} {
			if got, n, f := parse.Type(slices.Concat(ahead, l, behind), 2); f != (api.Fault{}) || n != 2+len(l) || !sameShape(got, want) {
				t.Errorf("Type of %q among others = %v, %d, fault %d at %d", text, got, n, int(f.Err), f.At)
			}
		}
	}
}

// TestTypeAll: P9.1, P9.5, all lists of tokens up to the first one that does not fit, against the chapter's grammar.
func TestTypeAll(t *testing.T) {
	few := tokensOf(t, `Int A a b / [ ] { : , } < | > ( ) -> = 1 "" in`)
	few = append(few, api.Token{}, api.Token{Kind: api.TokSign, Text: "Int"}, api.Token{Kind: api.TokName, Text: "A"}, api.Token{Kind: api.TokUpper, Text: "a"})
	everyList("type", few, 8, func(l []api.Token) { wantType(t, l, 0) })
	fewer := tokensOf(t, "Int a b { : , } < | > ( ) ->")
	everyList("type", fewer, 9, func(l []api.Token) { wantType(t, l, 0) })
}

// TestTypeSyntax: P9.1, P9.3, ErrSyntax at the first token that does not fit.
func TestTypeSyntax(t *testing.T) {
	for s, at := range map[string]int{
		"": 0, " ": 1, "-- Int": 6, "\n": 1, "a": 1, "a ": 2, "a/": 2, "a/b": 2, "a /1": 3, "A/B": 1, "q/Id/Id": 4, "int": 3, "1": 0, `"Int"`: 0, "let": 0, "true": 0, "[": 1, "[]": 1, "[Int": 4, "[Int,": 4, "[Int, Int]": 4, "[Int)": 4, "]": 0,
		"{": 1, "{a": 2, "{a:": 3, "{a: Int": 7, "{a: Int,": 8, "{a: Int,}": 8, "{,}": 1, "{a}": 2, "{a = Int}": 3, "{A: Int}": 1, "{in: Int}": 1, "{a: Int b: Int}": 8, "{a: Int | b: Int}": 8, "{a: Int, , b: Int}": 9, "{a: Int)": 7, "{a: a}": 5, "{1: Int}": 1, "{\"a\": Int}": 1, "{a: }": 4,
		"<": 1, "<a: Int": 7, "<a: Int |": 9, "<a: Int |>": 9, "<|>": 1, "<a: Int, b: Int>": 7, "<a: Int }": 8, "<=>": 0, "<a>": 2, "<a: Int>=": 7,
		"(": 1, "()": 2, "() Int": 3, "() ->": 5, "(Int)": 5, "(Int) Int": 6, "(Int,) -> Int": 5, "(,) -> Int": 1, "(Int Int) -> Int": 5, "(Int] -> Int": 4, "(a: Int) -> Int": 2, "(Int) -> ": 9, "() => Int": 3, "Int -> Int": 4, "Int Int": 4, "Int,": 3, "[Int]]": 5, "{} {}": 3, "() -> Int -> Int": 10, "Any)": 3, "^": 0, "*": 0, "1.2.3": 0, "@a(Int)": 0, "new K": 0,
	} {
		wantTypeFault(t, s, api.ErrSyntax, at)
	}
}

// TestTypeTwice: P9.1, ErrTwice at a name that stands a second time, unless something ahead of it does not fit.
func TestTypeTwice(t *testing.T) {
	for s, at := range map[string]int{
		"{a: Int, a: Int}": 9, "<a: Int | a: Int>": 10, "{a: Int, b: Int, c: Int, b: Int, a: Int}": 25, "{a: Int, a": 9, "{a: Int, a a": 9, "<a: Int | a = >": 10, "{a: {a: Int}, a: Int}": 14, "{a: {b: Int, b: Int}, a: Int}": 13, "[{a: Int, a: Int}": 10, "{a: <b: Int | b: Int>, a}": 14, "({a: Int, a: Int": 10, "<x: {a: Int} | y: {a: Int, a: Int}>": 27,
	} {
		wantTypeFault(t, s, api.ErrTwice, at)
	}
	for s, at := range map[string]int{"{a: Int a: Int}": 8, "{a: Int, a1: , a: Int}": 13, "{a Int, a: Int}": 3, "{a: Int, A: Int, a: Int}": 9} {
		wantTypeFault(t, s, api.ErrSyntax, at)
	}
	for _, s := range []string{"{a: {a: {a: Int}}}", "<a: Int | b: <a: Int | b: Int>>", "{a: Int, aa: Int, b: {a: Int, aa: Int}}", "({a: Int}, {a: Int}) -> {a: Int}", "{a: a/A, b: a/A}", "{a: <a: Int | b: Int>, b: Int}"} {
		if _, f := parse.TypeText(s); f != (api.Fault{}) {
			t.Errorf("TypeText(%q): fault %d at %d", s, int(f.Err), f.At)
		}
	}
	// As many names as there is room for, and one of them once more.
	var names []string
	for i := range 100 {
		names = append(names, "n"+strconv.Itoa(i)+": Int")
	}
	s := "{" + strings.Join(names, ", ")
	if u, f := parse.TypeText(s + "}"); f != (api.Fault{}) || len(u.Names) != 100 || u.Names[99] != "n99" {
		t.Error(u, f)
	}
	for _, i := range []int{0, 50, 99} {
		wantTypeFault(t, s+", n"+strconv.Itoa(i)+": Int}", api.ErrTwice, len(s)+2)
	}
}

// wideType is the source of a type of so many parts.
func wideType(parts int) string { return "(" + strings.Repeat("A,", parts-3) + "A)->A" }

// deepType is the source of a type of so many levels.
func deepType(levels int) string {
	return strings.Repeat("[", levels-1) + "A" + strings.Repeat("]", levels-1)
}

// TestTypeGreat: P9.1, ErrBig and ErrDeep at the type's first token, when it is read whole, and no limit ahead of that.
func TestTypeGreat(t *testing.T) {
	for _, s := range []string{wideType(399), wideType(400), deepType(39), deepType(40), "{a:" + wideType(399) + "}", "[" + deepType(39) + "]", strings.Repeat("()->", 39) + "A", strings.Repeat("(A)->", 39) + "A", strings.Repeat("{a:", 39) + "{}" + strings.Repeat("}", 39)} {
		if u, f := parse.TypeText(s); f != (api.Fault{}) || shape.Check(u) != api.OK {
			t.Errorf("TypeText(%.80q): fault %d at %d", s, int(f.Err), f.At)
		}
	}
	for s, err := range map[string]api.Errno{wideType(401): api.ErrBig, wideType(1000): api.ErrBig, "[" + wideType(400) + "]": api.ErrBig, deepType(41): api.ErrDeep, deepType(399): api.ErrDeep, deepType(400): api.ErrDeep, deepType(401): api.ErrBig, deepType(2000): api.ErrBig, strings.Repeat("<a:", 40) + "<>" + strings.Repeat(">", 40): api.ErrDeep, strings.Repeat("()->", 40) + "A": api.ErrDeep, strings.Repeat("()->", 1000) + "A": api.ErrBig} {
		wantTypeFault(t, s, err, 0)
		wantTypeFault(t, " \n"+s, err, 2)
		// What stands within the type goes ahead, what stands behind it does not.
		wantTypeFault(t, " "+s+")", err, 1)
		wantTypeFault(t, "[ "+s+" )", api.ErrSyntax, len(s)+3)
		wantTypeFault(t, "{a: Int, b: "+s+", a", api.ErrTwice, len(s)+14)
		if u, n, f := parse.Type(append([]api.Token{{}, {}, {}}, scanned(t, " "+s)...), 3); f != (api.Fault{Err: err, At: 1}) || n != 0 || !sameShape(u, api.Shape{}) {
			t.Errorf("Type of %.80q: %d, fault %d at %d", s, n, int(f.Err), f.At)
		}
	}
	// It is the outermost type's first token, wherever within it stands what is too great.
	for s, err := range map[string]api.Errno{wideType(401): api.ErrBig, deepType(41): api.ErrDeep} {
		for _, around := range []string{"[T]", "{a: T}", "<a: A | b: T>", "(T) -> A", "(A, T) -> A", "() -> T", "{a: [T], b: A}"} {
			wantTypeFault(t, " "+strings.ReplaceAll(around, "T", s), err, 1)
		}
	}
	wantTypeFault(t, strings.Repeat("[", 4096), api.ErrSyntax, 4096)
	wantTypeFault(t, strings.Repeat("(", 4096), api.ErrSyntax, 4096)
	wantTypeFault(t, strings.Repeat("{a:", 1365), api.ErrSyntax, 4095)
	wantTypeFault(t, strings.Repeat("<a:", 1365), api.ErrSyntax, 4095)
	wantTypeFault(t, strings.Repeat("()->", 1024), api.ErrSyntax, 4096)
	wantTypeFault(t, deepType(2000)[:3998], api.ErrSyntax, 3998)
}

// TestTermExamples: P9.2, P9.3, the chapter's examples.
func TestTermExamples(t *testing.T) {
	f := api.Term{Kind: api.TmVar, Name: "f"}
	wantTree(t, "f.a(1)", api.Term{Kind: api.TmCall, Parts: []api.Term{{Kind: api.TmField, Name: "a", Parts: []api.Term{f}}, {Kind: api.TmInt, N: 1, At: 4}}})
}

// TestTermTrees: P9.2, expressions of each kind, with all places.
func TestTermTrees(t *testing.T) {
	x := func(at int) api.Term { return api.Term{Kind: api.TmVar, Name: "x", At: at} }
	one := func(at int) api.Term { return api.Term{Kind: api.TmInt, N: 1, At: at} }
	parts := func(l ...api.Term) []api.Term { return l }
	for s, want := range map[string]api.Term{
		" 1": one(1), " 0": {Kind: api.TmInt, At: 1}, "999999999999999": {Kind: api.TmInt, N: 999999999999999}, "\n\"a\\n\"": {Kind: api.TmText, Name: "a\n", At: 1}, `""`: {Kind: api.TmText}, " true": {Kind: api.TmTrue, At: 1}, "--\nfalse": {Kind: api.TmFalse, At: 3}, "  x": x(2), " q / f": {Kind: api.TmVar, Of: "q", Name: "f", At: 1},
		"fun (x: Int, y: q/Id) -> x": {Kind: api.TmFun, Names: []string{"x", "y"}, Shapes: []api.Shape{integer, ident}, Parts: parts(x(25))},
		" fun() -> x":                {Kind: api.TmFun, Parts: parts(x(10)), At: 1},
		"x(1, x)":                    {Kind: api.TmCall, Parts: parts(x(0), one(2), x(5))},
		" x()()":                     {Kind: api.TmCall, Parts: parts(api.Term{Kind: api.TmCall, Parts: parts(x(1)), At: 1}), At: 1},
		" {b = 1, a = x}":            {Kind: api.TmRecord, Names: []string{"b", "a"}, Parts: parts(one(6), x(13)), At: 1},
		" x . a.b":                   {Kind: api.TmField, Name: "b", Parts: parts(api.Term{Kind: api.TmField, Name: "a", Parts: parts(x(1)), At: 1}), At: 1},
		" @ some(1)":                 {Kind: api.TmCase, Name: "some", Parts: parts(one(8)), At: 1},
		" [1, x] of Key":             {Kind: api.TmList, Shapes: []api.Shape{key}, Parts: parts(one(2), x(5)), At: 1},
		"if x then 1 else x as Int":  {Kind: api.TmIf, Shapes: []api.Shape{integer}, Parts: parts(x(3), one(10), x(17))},
		"case x of {b(y: Key) -> 1 | a(x: Int) -> x} as q/Id": {Kind: api.TmMatch, Names: []string{"b", "a"}, Vars: []string{"y", "x"}, Shapes: []api.Shape{key, integer, ident}, Parts: parts(x(5), one(24), x(41))},
		" case x of {} as Key":                                {Kind: api.TmMatch, Shapes: []api.Shape{key}, Parts: parts(x(6)), At: 1},
		"let y = 1 in x":                                      {Kind: api.TmLet, Name: "y", Parts: parts(one(8), x(13))},
		" (x as Key)":                                         {Kind: api.TmAs, Shapes: []api.Shape{key}, Parts: parts(x(2)), At: 1},
		" new K(x)":                                           {Kind: api.TmNew, Name: "K", Parts: parts(x(7)), At: 1},
		" raw Int(x)":                                         {Kind: api.TmRaw, Name: "Int", Parts: parts(x(9)), At: 1},
		// ( and ) count for what stands around, not for what stands within.
		" (x)": x(2), "(((x)))": x(3), "( f.a)(1)": {Kind: api.TmCall, Parts: parts(api.Term{Kind: api.TmField, Name: "a", Parts: parts(api.Term{Kind: api.TmVar, Name: "f", At: 2}), At: 2}, one(7))},
		"((x).a)":            {Kind: api.TmField, Name: "a", Parts: parts(x(2)), At: 1},
		"(x)(1).a":           {Kind: api.TmField, Name: "a", Parts: parts(api.Term{Kind: api.TmCall, Parts: parts(x(1), one(4))})},
		"((x)(1)).a":         {Kind: api.TmField, Name: "a", Parts: parts(api.Term{Kind: api.TmCall, Parts: parts(x(2), one(5)), At: 1})},
		"((x as Key)).a":     {Kind: api.TmField, Name: "a", Parts: parts(api.Term{Kind: api.TmAs, Shapes: []api.Shape{key}, Parts: parts(x(2)), At: 1})},
		"((x) as Key)":       {Kind: api.TmAs, Shapes: []api.Shape{key}, Parts: parts(x(2))},
		"let y = (1) in (x)": {Kind: api.TmLet, Name: "y", Parts: parts(one(9), x(16))},
		// As much is read as can be.
		"fun () -> x(1)":                      {Kind: api.TmFun, Parts: parts(api.Term{Kind: api.TmCall, Parts: parts(x(10), one(12)), At: 10})},
		"let y = x in x.a":                    {Kind: api.TmLet, Name: "y", Parts: parts(x(8), api.Term{Kind: api.TmField, Name: "a", Parts: parts(x(13)), At: 13})},
		"1 (x)":                               {Kind: api.TmCall, Parts: parts(one(0), x(3))},
		"1 .a":                                {Kind: api.TmField, Name: "a", Parts: parts(one(0))},
		"x /x .a":                             {Kind: api.TmField, Name: "a", Parts: parts(api.Term{Kind: api.TmVar, Of: "x", Name: "x"})},
		"(fun () -> x as () -> Key)":          {Kind: api.TmAs, Shapes: []api.Shape{{Kind: api.ShFun, Parts: []api.Shape{key}}}, Parts: parts(api.Term{Kind: api.TmFun, Parts: parts(x(11)), At: 1})},
		"(if x then 1 else x as Key)":         {Kind: api.TmIf, Shapes: []api.Shape{key}, Parts: parts(x(4), one(11), x(18)), At: 1},
		"if x then 1 else fun () -> x as Key": {Kind: api.TmIf, Shapes: []api.Shape{key}, Parts: parts(x(3), one(10), api.Term{Kind: api.TmFun, Parts: parts(x(27)), At: 17})},
	} {
		wantTree(t, s, want)
	}
}

// TestTermSamples: P9.2, P9.3, P9.4, sources of each kind are read as what their text is, also within a list of tokens.
func TestTermSamples(t *testing.T) {
	ahead := []api.Token{{Kind: api.TokSign, Text: "("}, {Kind: 77, Text: "?", At: -3}, {}}
	for _, s := range termSamples {
		u, f := parse.TermText(s)
		if text, err := terms.Show(u); text != s || err != api.OK || f != (api.Fault{}) {
			t.Errorf("TermText(%q) is written %q, error %d, fault %d at %d", s, text, int(err), int(f.Err), f.At)
		}
		l := scanned(t, s)
		for _, behind := range [][]api.Token{nil, {{}}, {{Kind: api.TokSign, Text: ")"}}, {{Kind: api.TokWord, Text: "in"}, {}}, {{Kind: api.TokWord, Text: "as"}}, {{Kind: api.TokName, Text: "x"}}, {{Kind: -1}}} {
			if got, n, f := parse.Term(slices.Concat(ahead, l, behind), 3); f != (api.Fault{}) || n != 3+len(l) || !sameTerm(got, u) {
				t.Errorf("Term of %q among others = %v, %d, fault %d at %d", s, got, n, int(f.Err), f.At)
			}
		}
	}
}

// TestTermAll: P9.2, P9.5, all lists of tokens up to the first one that does not fit, against the chapter's grammar.
func TestTermAll(t *testing.T) {
	few := tokensOf(t, `fun let if then else case of as in new raw true false x a K 1 "" ( ) { } [ ] = , : . / @ | -> < module ^`)
	few = append(few, api.Token{}, api.Token{Kind: api.TokName, Text: "K"}, api.Token{Kind: api.TokUpper, Text: "x"}, api.Token{Kind: api.TokVer, Text: "1.2.3"})
	everyList("expr", few, 5, func(l []api.Token) { wantTerm(t, l, 0) })
	fewer := tokensOf(t, "x a 1 ( ) { } = , . fun : K ->")
	everyList("expr", fewer, 7, func(l []api.Token) { wantTerm(t, l, 0) })
}

// TestTermChanged: P9.2, P9.5, sources of each kind with a token too many, too few, another one, or cut off, against the chapter's grammar.
func TestTermChanged(t *testing.T) {
	all := tokensOf(t, termSamples...)
	all = append(all, api.Token{}, api.Token{Kind: api.TokName, Text: "in"}, api.Token{Kind: 8, Text: "x"}, api.Token{Kind: api.TokVer, Text: "1.2.3"}, api.Token{Kind: api.TokSign, Text: "<="})
	for _, s := range append(termSamples, "(x)", "((x)(1))", "(((x as Int)))", "f((x), (1))") {
		l := scanned(t, s)
		wantTerm(t, l, 0)
		for i := range len(l) + 1 {
			wantTerm(t, l[:i], 0)
			wantTerm(t, l, i)
			for _, token := range all {
				wantTerm(t, placed(slices.Insert(slices.Clone(l), i, token)), 0)
				if i < len(l) {
					wantTerm(t, placed(slices.Concat(l[:i], []api.Token{token}, l[i+1:])), 0)
				}
			}
			if i < len(l) {
				wantTerm(t, placed(slices.Concat(l[:i], l[i+1:])), 0)
			}
		}
	}
}

// TestTermSyntax: P9.2, P9.3, ErrSyntax at the first token that does not fit.
func TestTermSyntax(t *testing.T) {
	for s, at := range map[string]int{
		"": 0, " --": 3, "X": 0, "q/": 2, "q/X": 2, "q/1": 2, "q/q/q": 3, "let": 3, "let X = 1 in 2": 4, "let x 1": 6, "let x = in x": 8, "let x = 1": 9, "let x = 1 x": 10, "let x = 1 in": 12, "let true = 1 in x": 4, "fun": 3, "fun x -> x": 4, "fun (x) -> x": 6, "fun (x: ) -> x": 8, "fun (x: x) -> x": 9, "fun (x: Int,) -> x": 12, "fun (x: Int) x": 13, "fun (x: Int) ->": 15, "fun (X: Int) -> x": 5, "fun (x: Int | y: Int) -> x": 12, "fun () x": 7,
		"if a then b else c": 18, "if a then b as Int": 12, "if a else b": 5, "if then": 3, "if a then b else c as c": 23, "if a then b else c as 1": 22, "case x": 6, "case x {}": 7, "case x of": 9, "case x of {}": 12, "case x of {} as": 15, "case x of {a} as Int": 12, "case x of {a(x) -> 1} as Int": 14, "case x of {a(x: Int) 1} as Int": 21, "case x of {a(x: Int) -> 1 |} as Int": 27, "case x of {a(x: Int) -> 1, b(x: Int) -> 1} as Int": 25, "case x of {|} as Int": 11, "case x of {a(X: Int) -> 1} as Int": 13, "case x of {a() -> 1} as Int": 13, "case x of {@a(x: Int) -> 1} as Int": 11,
		"[": 1, "[1": 2, "[1]": 3, "[1] Int": 4, "[1,] of Int": 3, "[1 2] of Int": 3, "[,] of Int": 1, "[1] of": 6, "[1] of x": 8, "[1] of Int(2)": 10, "fun () -> x as Int": 12, "let x = 1 in x as Int": 15, "f(1,)": 4, "f(": 2, "f(1": 3, "f(1 2)": 4, "f(,)": 2, "f(x: 1)": 3, "f.": 2, "f.A": 2, "f .1": 3, "f.in": 2, "f. (x)": 3, "x)": 1, "x x": 2, "x 1": 2, "x as Int": 2, "1 2": 2, "x.a b": 4, "x -> x": 2, "x = x": 2, "x,": 1, "x @a(1)": 2,
		"(": 1, "()": 1, "(x": 2, "(x,": 2, "(x, x)": 2, "(x as": 5, "(x as)": 5, "(x as Int": 9, "(x as Int as Int)": 10, "(x as Int)(": 11, "{": 1, "{a": 2, "{a}": 2, "{a: 1}": 2, "{a = }": 5, "{a = 1": 6, "{a = 1,}": 7, "{A = 1}": 1, "{a = 1 b = 1}": 7, "{a = 1 | b = 1}": 7, "{,}": 1, "@": 1, "@a": 2, "@A(1)": 1, "@a()": 3, "@a(1, 2)": 4, "@a 1": 3, "@(1)": 1, "new": 3, "new k(1)": 4, "new K": 5, "new K()": 6, "new K(1, 2)": 7, "new K 1": 6, "new q/K(1)": 4, "raw k(1)": 4, "raw K": 5, "raw (1)": 4, "module": 0, "type": 0, "import": 0, "1.2.3": 0, "*": 0, "^": 0, "->": 0, ".a": 0, "/x": 0, "in": 0, "as": 0, "then": 0, "of": 0, "{}{}": 2, "true true": 5,
	} {
		wantTermFault(t, s, api.ErrSyntax, at)
	}
}

// TestTermTwice: P9.2, ErrTwice at a name that stands a second time in one fun, case or record, or in one type, unless something ahead of it does not fit.
func TestTermTwice(t *testing.T) {
	for s, at := range map[string]int{
		"fun (x: Int, x: Int) -> x": 13, "{a = 1, a = 2}": 8, "case x of {a(x: Int) -> 1 | a(y: Int) -> 1} as Int": 28, "fun (x: Int, x": 13, "fun (x: Int, y: Int, x) -> x": 21, "{a = 1, b = 1, a}": 15, "{a = {a = 1}, a = 1}": 14, "{a = {a = 1, a = 1}, a = 1}": 13, "case x of {a(x: Int) -> 1 | b(x: Int) -> 1 | a": 45, "fun (x: {a: Int, a: Int}, x: Int) -> x": 17, "(x as <a: Int | a: Int>)": 16, "f({a = 1}, {a = 1, a = 1})": 19, "fun (x: Int) -> fun (x: Int, x: Int) -> x": 29, "[] of {a: Int, a: Int}": 15, "case x of {a(x: Int) -> case x of {a(x: Int) -> 1 | a(x: Int) -> 1} as Int} as Int": 52, "case x of {a(x: {b: Int, b: Int}) -> 1 | a": 25, "if x then {a = 1, a = 1} else": 18,
	} {
		wantTermFault(t, s, api.ErrTwice, at)
	}
	for s, at := range map[string]int{"fun (x: Int x: Int) -> x": 12, "{a 1, a = 2}": 3, "{a = , a = 2}": 5, "case x of {a(x: Int) 1 | a(y: Int) -> 1} as Int": 21, "fun (x: x, x: Int) -> x": 9, "{a = 1 a = 2}": 7} {
		wantTermFault(t, s, api.ErrSyntax, at)
	}
	for _, s := range []string{"fun (x: Int) -> fun (x: Int) -> x", "{a = {a = 1}, b = {a = 1}}", "case x of {a(x: Int) -> x | b(x: Int) -> x} as Int", "case a of {a(a: Int) -> a} as {a: Int}", "f({a = 1}, {a = 1})", "fun (x: {x: Int}, y: {x: Int}) -> x", "let x = 1 in let x = x in x", "case x of {x(x: Int) -> case x of {x(x: Int) -> x} as Int} as Int", "f(a, a, a)", "[a, a] of Int", "{a = a, b = a(a, a)}"} {
		if _, f := parse.TermText(s); f != (api.Fault{}) {
			t.Errorf("TermText(%q): fault %d at %d", s, int(f.Err), f.At)
		}
	}
}

// TestTermGreat: P9.2, ErrDeep at the first token of an expression that is read whole.
func TestTermGreat(t *testing.T) {
	// nested are an expression of so many levels, by where the deepest one stands.
	nested := func(levels int) []string {
		n := levels - 1
		return []string{
			"x" + strings.Repeat("()", n), "x" + strings.Repeat(".a", n), strings.Repeat("x(", n) + "1" + strings.Repeat(")", n), strings.Repeat("{a=", n) + "1" + strings.Repeat("}", n), strings.Repeat("@a(", n) + "1" + strings.Repeat(")", n), strings.Repeat("fun()->", n) + "1", strings.Repeat("let x=1 in ", n) + "x", strings.Repeat("let x=", n) + "1" + strings.Repeat(" in x", n), strings.Repeat("[", n) + "x" + strings.Repeat("]of A", n), strings.Repeat("if ", n) + "x" + strings.Repeat(" then x else x as A", n), strings.Repeat("if x then x else ", n) + "x" + strings.Repeat(" as A", n), strings.Repeat("case ", n) + "x" + strings.Repeat(" of{}as A", n), strings.Repeat("case x of{a(x:A)->", n) + "x" + strings.Repeat("}as A", n), strings.Repeat("(", n) + "x" + strings.Repeat(" as A)", n), strings.Repeat("new A(", n) + "x" + strings.Repeat(")", n), strings.Repeat("raw A(", n) + "x" + strings.Repeat(")", n),
		}
	}
	for _, s := range append(nested(39), nested(40)...) {
		if u, f := parse.TermText(s); f != (api.Fault{}) || terms.Check(u) != api.OK {
			t.Errorf("TermText(%.80q): fault %d at %d", s, int(f.Err), f.At)
		}
	}
	for _, s := range append(nested(41), nested(100)...) {
		wantTermFault(t, s, api.ErrDeep, 0)
		wantTermFault(t, " \n"+s, api.ErrDeep, 2)
		wantTermFault(t, " (( "+s+"))", api.ErrDeep, 1)
		// What stands within the expression goes ahead, what stands behind it does not.
		wantTermFault(t, " "+s+" ]", api.ErrDeep, 1)
		wantTermFault(t, "f("+s+" ]", api.ErrSyntax, len(s)+3)
		wantTermFault(t, "{b = "+s+", b", api.ErrTwice, len(s)+7)
		if u, n, f := parse.Term(append([]api.Token{{}, {}, {}}, scanned(t, " "+s)...), 3); f != (api.Fault{Err: api.ErrDeep, At: 1}) || n != 0 || !sameTerm(u, api.Term{}) {
			t.Errorf("Term of %.80q: %d, fault %d at %d", s, n, int(f.Err), f.At)
		}
	}
	// ( and ) alone are no levels.
	if u, f := parse.TermText(strings.Repeat("(", 2000) + "x" + strings.Repeat(")", 2000)); f != (api.Fault{}) || !sameTerm(u, api.Term{Kind: api.TmVar, Name: "x", At: 2000}) {
		t.Error(u, f)
	}
	for _, s := range []string{"(", "[", "f(", "{a=", "@a(", "fun()->", "let x=", "let x=1 in ", "if ", "if x then ", "if x then x else ", "case ", "case x of{a(x:A)->", "new A(", "f().a("} {
		long := strings.Repeat(s, 4090/len(s))
		wantTermFault(t, long, api.ErrSyntax, len(long))
	}
	// As many parts as there is room for.
	many := "f(x" + strings.Repeat(",x", 2045) + ")"
	if u, f := parse.TermText(many); f != (api.Fault{}) || terms.Size(u) != 2048 {
		t.Error(terms.Size(u), f)
	}
}

// TestTypesWithin: P9.2, a type in an expression has its faults as soon as it is read.
func TestTypesWithin(t *testing.T) {
	great := map[string]api.Errno{wideType(401): api.ErrBig, "[" + wideType(400) + "]": api.ErrBig, deepType(41): api.ErrDeep, deepType(300): api.ErrDeep, deepType(401): api.ErrBig}
	for _, ahead := range []string{"fun (x: ", "fun (x: A, y: ", "[] of ", "[1] of ", "if x then x else x as ", "case x of {a(x: ", "case x of {a(x: A) -> x | b(x: ", "case x of {} as ", "case x of {a(x: A) -> x} as ", "(x as ", "f(x, (x as ", "let x = 1 in (x as ", strings.Repeat("@a(", 50) + "(x as "} {
		for s, err := range great {
			// Neither what stands behind the type, nor how great the whole is, goes ahead.
			for _, behind := range []string{"", " ", " 1", ", x: Int, x", ")", "}", strings.Repeat(" ( x", 40)} {
				wantTermFault(t, ahead+s+behind, err, len(ahead))
			}
			wantTermFault(t, ahead+s[:len(s)-1], api.ErrSyntax, len(ahead)+len(s)-1)
			wantTermFault(t, ahead+"{a: "+s+", a: A}", api.ErrTwice, len(ahead)+len(s)+6)
			wantTermFault(t, "f(x y, "+ahead+s, api.ErrSyntax, 4)
			wantTermFault(t, "f({a = 1, a = 1}, "+ahead+s, api.ErrTwice, 10)
			// The type is the one that stands in no other one.
			wantTermFault(t, ahead+"{a: "+s+"}", err, len(ahead))
		}
	}
	for _, s := range []string{wideType(400), deepType(40)} {
		for _, whole := range []string{"fun (x: T) -> x", "[] of T", "if x then x else x as T", "case x of {a(x: T) -> x} as T", "(x as T)", "fun (x: A, y: T, z: T) -> x"} {
			if u, f := parse.TermText(strings.ReplaceAll(whole, "T", s)); f != (api.Fault{}) || terms.Check(u) != api.OK {
				t.Errorf("TermText(%q) with %.80q: fault %d at %d", whole, s, int(f.Err), f.At)
			}
		}
	}
	// The parts and the levels of types are none of the expression's.
	deep := strings.Repeat("@a(", 39) + "[] of " + deepType(40) + strings.Repeat(")", 39)
	if _, f := parse.TermText(deep); f != (api.Fault{}) {
		t.Error(f)
	}
}

// wantBoth asks Type and Term of tokens for one fault.
func wantBoth(t *testing.T, l []api.Token, at int, want api.Fault) {
	t.Helper()
	if s, n, f := parse.Type(l, at); f != want || n != 0 || !sameShape(s, api.Shape{}) {
		t.Errorf("Type of %d tokens from %d on: %v, %d, fault %d at %d, want %d at %d", len(l), at, s, n, int(f.Err), f.At, int(want.Err), want.At)
	}
	if u, n, f := parse.Term(l, at); f != want || n != 0 || !sameTerm(u, api.Term{}) {
		t.Errorf("Term of %d tokens from %d on: %v, %d, fault %d at %d, want %d at %d", len(l), at, u, n, int(f.Err), f.At, int(want.Err), want.At)
	}
}

// TestArguments: P9.1, P9.2, ErrArg at 0 and ErrBig at 0 ahead of all else.
func TestArguments(t *testing.T) {
	one := []api.Token{{Kind: api.TokUpper, Text: "Int", At: 9}}
	for _, at := range []int{-1, 2, 3, math.MinInt, math.MaxInt} {
		wantBoth(t, one, at, api.Fault{Err: api.ErrArg})
	}
	for _, at := range []int{-1, 1, math.MinInt, math.MaxInt} {
		wantBoth(t, nil, at, api.Fault{Err: api.ErrArg})
		wantBoth(t, []api.Token{}, at, api.Fault{Err: api.ErrArg})
	}
	for _, n := range []int{4098, 4099, 10000} {
		l := slices.Repeat(one, n)
		for _, at := range []int{0, 1, 4097, n - 1, n} {
			wantBoth(t, l, at, api.Fault{Err: api.ErrBig})
		}
		for _, at := range []int{-1, n + 1, math.MinInt, math.MaxInt} {
			wantBoth(t, l, at, api.Fault{Err: api.ErrArg})
		}
	}
	l := slices.Repeat(one, 4097)
	l[4096] = api.Token{}
	for _, at := range []int{0, 1, 4000, 4095} {
		if s, n, f := parse.Type(l, at); f != (api.Fault{}) || n != at+1 || !sameShape(s, integer) {
			t.Error(at, s, n, f)
		}
	}
	wantBoth(t, l, 4096, api.Fault{Err: api.ErrSyntax})
	l[4095], l[4096] = api.Token{Kind: api.TokSign, Text: "[", At: 3}, api.Token{Kind: api.TokSign, Text: "]", At: 4}
	wantBoth(t, l, 4095, api.Fault{Err: api.ErrSyntax, At: 4})
	// All tokens that there may be, each of which is read.
	fields := slices.Repeat([]api.Token{{Kind: api.TokSign, Text: "."}, {Kind: api.TokName, Text: "a"}}, 2048)
	if _, n, f := parse.Term(append([]api.Token{{Kind: api.TokName, Text: "x", At: 8}}, fields...), 0); f != (api.Fault{Err: api.ErrDeep, At: 8}) || n != 0 {
		t.Error(n, f)
	}
	ones := slices.Repeat([]api.Token{{Kind: api.TokSign, Text: ","}, {Kind: api.TokInt, Text: "1"}}, 2047)
	row := slices.Concat([]api.Token{{Kind: api.TokName, Text: "f"}, {Kind: api.TokSign, Text: "("}}, ones[1:], []api.Token{{Kind: api.TokSign, Text: ")"}, {Kind: api.TokSign, Text: "("}})
	if _, n, f := parse.Term(row[:4096], 0); f != (api.Fault{}) || n != 4096 {
		t.Error(n, f)
	}
}

// TestEnd: P9.1, P9.2, behind the last token of a list, whatever that is, a TokEnd is read at its place.
func TestEnd(t *testing.T) {
	wantBoth(t, nil, 0, api.Fault{Err: api.ErrSyntax})
	for _, last := range []api.Token{{At: 7}, {Kind: api.TokSign, Text: ")", At: 7}, {Kind: api.TokUpper, Text: "Int", At: 7}, {Kind: api.TokName, Text: "x", At: 7}, {Kind: 99, At: 7}, {Kind: -1, Text: "(", At: 7}} {
		wantBoth(t, []api.Token{last}, 1, api.Fault{Err: api.ErrSyntax, At: 7})
		wantBoth(t, []api.Token{{Kind: api.TokUpper, Text: "Int", At: 70}, {Kind: api.TokName, Text: "x", At: 71}, last}, 3, api.Fault{Err: api.ErrSyntax, At: 7})
	}
	open, shut := api.Token{Kind: api.TokSign, Text: "[", At: 20}, api.Token{Kind: api.TokSign, Text: "]", At: 5}
	x, upper := api.Token{Kind: api.TokName, Text: "x", At: 3}, api.Token{Kind: api.TokUpper, Text: "A", At: 4}
	wantBoth(t, []api.Token{open}, 0, api.Fault{Err: api.ErrSyntax, At: 20})
	wantBoth(t, []api.Token{open, {}}, 0, api.Fault{Err: api.ErrSyntax})
	wantBoth(t, []api.Token{open, {At: 30}}, 0, api.Fault{Err: api.ErrSyntax, At: 30})
	// A TokEnd within a list does not fit, and ends nothing.
	if _, _, f := parse.Type([]api.Token{open, upper, {At: 30}, shut}, 0); f != (api.Fault{Err: api.ErrSyntax, At: 30}) {
		t.Error(f)
	}
	if _, n, f := parse.Type([]api.Token{upper, {At: 30}, {At: 31}, upper}, 3); f != (api.Fault{}) || n != 4 {
		t.Error(n, f)
	}
	if _, n, f := parse.Term([]api.Token{x, {At: 30}, {Kind: api.TokSign, Text: "("}, {Kind: api.TokSign, Text: ")"}}, 0); f != (api.Fault{}) || n != 1 {
		t.Error(n, f)
	}
	if s, n, f := parse.Type([]api.Token{open, upper, shut}, 0); f != (api.Fault{}) || n != 3 || !sameShape(s, list(api.Shape{Kind: api.ShName, Name: "A"})) {
		t.Error(s, n, f)
	}
	if u, n, f := parse.Term([]api.Token{x}, 0); f != (api.Fault{}) || n != 1 || !sameTerm(u, api.Term{Kind: api.TmVar, Name: "x", At: 3}) {
		t.Error(u, n, f)
	}
}

// TestHandMade: P9.1, P9.2, P9.5, tokens of any kinds, texts and places: none is a name, an upper name, a number or a text for its kind alone.
func TestHandMade(t *testing.T) {
	some := []string{"", "x", "X", "Int", "let", "in", "fun", "(", ")", "->", "1", "0", "00", "01", "-1", "+1", "1 ", "1_0", "0x1", "999999999999999", "1000000000000000", "99999999999999999999", "1.2.3", "a b", "é", "\n", "\t", "\r", "\x00", "\x1f", "\x7f", "\xff", "\xc3", "\xed\xa0\x80", "true", `"`, `\`, longest, longest + "z", longestUpper, longestUpper + "z", strings.Repeat("a", 5000), strings.Repeat("é", 5000), strings.Repeat("1", 5000)}
	right := scanned(t, `case x of {a(y: K) -> f(1, "", (q/f as q/Id))} as {a: Int}`)
	rightType := scanned(t, "({a: Int}, <b: q/Id>) -> [K]")
	for kind := -1; kind < 10; kind++ {
		for _, text := range some {
			token := api.Token{Kind: kind, Text: text, At: 3}
			wantOne(t, token)
			for i := range right {
				wantHandMade(t, "expr", slices.Concat(right[:i], []api.Token{token}, right[i+1:]))
			}
			for i := range rightType {
				wantHandMade(t, "type", slices.Concat(rightType[:i], []api.Token{token}, rightType[i+1:]))
			}
		}
	}
	for _, kind := range []int{math.MinInt, math.MaxInt, 1<<32 + 1, 257} {
		wantBoth(t, []api.Token{{Kind: kind, Text: "x", At: 3}}, 0, api.Fault{Err: api.ErrSyntax, At: 3})
	}
}

// wantOne asks Type and Term of one token alone.
func wantOne(t *testing.T, token api.Token) {
	t.Helper()
	wantHandMade(t, "type", []api.Token{token})
	wantHandMade(t, "expr", []api.Token{token})
}

// wantHandMade asks for what the model tells, and that what is read may be.
func wantHandMade(t *testing.T, name string, l []api.Token) {
	t.Helper()
	want, fault := modelRead(name, l, 0)
	n, f, err := 0, api.Fault{}, api.OK
	if name == "type" {
		var s api.Shape
		if s, n, f = parse.Type(l, 0); f.Err == api.OK {
			err = shape.Check(s)
		}
	} else {
		var u api.Term
		if u, n, f = parse.Term(l, 0); f.Err == api.OK {
			err = terms.Check(u)
		}
	}
	if n != want || f != fault || err != api.OK {
		t.Fatalf("%s of %.300v: %d, fault %d at %d, error %d, want %d, fault %d at %d", name, l, n, int(f.Err), f.At, int(err), want, int(fault.Err), fault.At)
	}
}

// TestPlaces: P9.1, P9.2, tokens at any places: each expression has its first token's, each fault its own token's; no expression may be at one below 0.
func TestPlaces(t *testing.T) {
	for _, s := range termSamples {
		l := scanned(t, s)
		for _, at := range []int{0, 1, 77, math.MaxInt} {
			for i := range l {
				l[i].At = at
			}
			u, n, f := parse.Term(l, 0)
			if f != (api.Fault{}) || n != len(l) || !everyAt(u, at) {
				t.Errorf("%q with places %d: %v, %d, fault %d at %d", s, at, u, n, int(f.Err), f.At)
			}
			enclosed := slices.Concat([]api.Token{{Kind: api.TokSign, Text: "("}}, l, []api.Token{{Kind: api.TokSign, Text: "]", At: at}})
			if _, _, f := parse.Term(enclosed, 0); f != (api.Fault{Err: api.ErrSyntax, At: at}) {
				t.Errorf("( and %q with places %d and ]: fault %d at %d", s, at, int(f.Err), f.At)
			}
		}
		for _, at := range []int{-1, math.MinInt} {
			for i := range l {
				l[i].At = at
			}
			if u, n, f := parse.Term(l, 0); f != (api.Fault{Err: api.ErrSyntax, At: at}) || n != 0 || !sameTerm(u, api.Term{}) {
				t.Errorf("%q with places %d: %v, %d, fault %d at %d", s, at, u, n, int(f.Err), f.At)
			}
		}
	}
	for text, want := range typeSamples() {
		l := scanned(t, text)
		for _, at := range []int{-1, math.MinInt, math.MaxInt} {
			for i := range l {
				l[i].At = at
			}
			if s, n, f := parse.Type(l, 0); f != (api.Fault{}) || n != len(l) || !sameShape(s, want) {
				t.Errorf("%q with places %d: %v, %d, fault %d at %d", text, at, s, n, int(f.Err), f.At)
			}
			wantBoth(t, append(l, api.Token{Kind: api.TokSign, Text: "]", At: at}), len(l), api.Fault{Err: api.ErrSyntax, At: at})
		}
	}
	// Only a token that an expression begins with has to be at a place where one may be.
	l := scanned(t, "f(x)")
	l[1].At, l[3].At = -5, -6
	if u, n, f := parse.Term(l, 0); f != (api.Fault{}) || n != 4 || terms.Check(u) != api.OK {
		t.Error(u, n, f)
	}
	l[2].At = -7
	if _, _, f := parse.Term(l, 0); f != (api.Fault{Err: api.ErrSyntax, At: -7}) {
		t.Error(f)
	}
}

// everyAt tells whether all parts of an expression are at one place.
func everyAt(u api.Term, at int) bool {
	return u.At == at && !slices.ContainsFunc(u.Parts, func(part api.Term) bool { return !everyAt(part, at) })
}

// anyOf tells any of some things.
func anyOf[E any](r *rand.Rand, l ...E) E { return l[r.Intn(len(l))] }

// anyNames are some names, no two the same.
func anyNames(r *rand.Rand) []string {
	l := []string{"a", "b", "x", longest}
	r.Shuffle(len(l), func(i, j int) { l[i], l[j] = l[j], l[i] })
	return l[:r.Intn(5)]
}

// anyType makes a type of any kind that may be and that no ShOpaque is part of.
func anyType(r *rand.Rand, deep int) api.Shape {
	s := api.Shape{Kind: anyOf(r, 1, 2, 3, 4, 5, 6, 7, 8, 9)}
	if deep == 0 {
		s.Kind = anyOf(r, 1, 2, 3, 4, 9)
	}
	n := 0
	switch s.Kind {
	case api.ShList:
		n = 1
	case api.ShRecord, api.ShVariant:
		s.Names = anyNames(r)
		n = len(s.Names)
	case api.ShFun:
		n = 1 + r.Intn(3)
	case api.ShName:
		if s.Of, s.Name = anyOf(r, "", "q", "x"), anyOf(r, "Key", "K"); s.Of != "" {
			s.Name = anyOf(r, "Key", "Int", "Any")
		}
	}
	for range n {
		s.Parts = append(s.Parts, anyType(r, deep-1))
	}
	return s
}

// anyTerm makes an expression of any kind that may be.
func anyTerm(r *rand.Rand, deep int) api.Term {
	t := api.Term{Kind: 1 + r.Intn(17)}
	if deep == 0 {
		t.Kind = 1 + r.Intn(5)
	}
	types, n := 0, 0
	switch t.Kind {
	case api.TmInt:
		t.N = anyOf(r, 0, 1, 12, 999999999999999)
	case api.TmText:
		t.Name = anyOf(r, "", "a", "\n", "\\n", "\"", "é\t", "-- ")
	case api.TmVar:
		t.Of, t.Name = anyOf(r, "", "", "q", "x"), anyOf(r, "x", "q", longest)
	case api.TmFun:
		t.Names = anyNames(r)
		types, n = len(t.Names), 1
	case api.TmCall:
		n = 1 + r.Intn(3)
	case api.TmRecord:
		t.Names = anyNames(r)
		n = len(t.Names)
	case api.TmField, api.TmCase:
		t.Name, n = anyOf(r, "a", "b"), 1
	case api.TmList:
		types, n = 1, r.Intn(3)
	case api.TmIf:
		types, n = 1, 3
	case api.TmMatch:
		t.Names = anyNames(r)
		for range t.Names {
			t.Vars = append(t.Vars, anyOf(r, "x", "y"))
		}
		types, n = len(t.Names)+1, len(t.Names)+1
	case api.TmLet:
		t.Name, n = anyOf(r, "x", "y"), 2
	case api.TmAs:
		types, n = 1, 1
	case api.TmNew, api.TmRaw:
		t.Name, n = anyOf(r, "K", "Key", "Int"), 1
	}
	for range types {
		t.Shapes = append(t.Shapes, anyType(r, 1))
	}
	for range n {
		t.Parts = append(t.Parts, anyTerm(r, deep-1))
	}
	return t
}

// TestTypeBack: P9.4, the text of each type that may be and has no ShOpaque is read as that type, however it is parted.
func TestTypeBack(t *testing.T) {
	r := rand.New(rand.NewSource(9))
	read := 0
	for range 20000 {
		s := anyType(r, 1+r.Intn(4))
		text, err := shape.Show(s)
		if err != api.OK || len(text) > 4096 {
			continue
		}
		read++
		if back, f := parse.TypeText(text); f != (api.Fault{}) || !sameShape(back, s) {
			t.Fatalf("%q is read as %v, fault %d at %d", text, back, int(f.Err), f.At)
		}
		w := &writer{r: r}
		w.typed(s)
		if back, f := parse.TypeText(w.String()); w.Len() <= 4096 && (f != (api.Fault{}) || !sameShape(back, s)) {
			t.Fatalf("%q is read as %v, fault %d at %d", w.String(), back, int(f.Err), f.At)
		}
	}
	if read < 10000 {
		t.Error(read)
	}
}

// TestOpaque: P9.4 asks for no ShOpaque: its text is read as a ShName.
func TestOpaque(t *testing.T) {
	text, _ := shape.Show(api.Shape{Kind: api.ShOpaque, Of: "q", Name: "Id"})
	if s, f := parse.TypeText(text); f != (api.Fault{}) || !sameShape(s, ident) {
		t.Error(text, s, f)
	}
}

// TestTermBack: P9.4, P9.6, the text of each expression that may be is read as the same; written with blanks, remarks and more ( and ), it is just that expression, each part at its first token.
func TestTermBack(t *testing.T) {
	r := rand.New(rand.NewSource(10))
	read := 0
	for range 20000 {
		u := anyTerm(r, 1+r.Intn(4))
		text, err := terms.Show(u)
		if err != api.OK {
			t.Fatal(u, int(err))
		}
		if len(text) > 4096 {
			continue
		}
		read++
		if back, f := parse.TermText(text); f != (api.Fault{}) || !terms.Same(back, u) {
			t.Fatalf("%q is read as %v, fault %d at %d", text, back, int(f.Err), f.At)
		}
		s := sourceOf(r, &u, r.Intn(4))
		if back, f := parse.TermText(s); len(s) <= 4096 && (f != (api.Fault{}) || !sameTerm(back, u)) {
			t.Fatalf("%q is read as %v, fault %d at %d, want %v", s, back, int(f.Err), f.At, u)
		}
	}
	if read < 10000 {
		t.Error(read)
	}
}

// TestAround: P9.6, ( and ) around an expression change nothing but places.
func TestAround(t *testing.T) {
	for _, s := range termSamples {
		u, _ := parse.TermText(s)
		for _, n := range []int{1, 2, 3, 50} {
			around := strings.Repeat("(", n) + s + strings.Repeat(")", n)
			back, f := parse.TermText(around)
			if f != (api.Fault{}) || !terms.Same(back, u) || !sameTerm(back, moved(u, n)) {
				t.Errorf("%q is read as %v, fault %d at %d", around, back, int(f.Err), f.At)
			}
		}
	}
	// Around a type there are none.
	wantTypeFault(t, "(Int)", api.ErrSyntax, 5)
	wantTypeFault(t, "[(Int)]", api.ErrSyntax, 6)
	wantTermFault(t, "(x as (Int))", api.ErrSyntax, 11)
}

// moved is an expression some bytes on.
func moved(u api.Term, on int) api.Term {
	u.At += on
	u.Parts = slices.Clone(u.Parts)
	for i, part := range u.Parts {
		u.Parts[i] = moved(part, on)
	}
	return u
}

// TestTexts: P9.3, of a source Scan's fault goes first, then that of what is read, then what stands behind it.
func TestTexts(t *testing.T) {
	for s, want := range map[string]api.Fault{
		"#": {Err: api.ErrToken}, "Int #": {Err: api.ErrToken, At: 4}, "x \xff": {Err: api.ErrToken, At: 2}, "{a: Int, a: Int} ?": {Err: api.ErrToken, At: 17}, "[[ \"\xff\"": {Err: api.ErrUTF, At: 4}, "-- \xff": {Err: api.ErrUTF, At: 3}, strings.Repeat(" ", 4097): {Err: api.ErrBig, At: 4096}, strings.Repeat("[", 4097): {Err: api.ErrBig, At: 4096}, "1.2": {Err: api.ErrToken}, strings.Repeat("[", 4096): {Err: api.ErrSyntax, At: 4096}, strings.Repeat(" ", 4096): {Err: api.ErrSyntax, At: 4096},
	} {
		wantTypeFault(t, s, want.Err, want.At)
		wantTermFault(t, s, want.Err, want.At)
	}
	for s, at := range map[string]int{"Int Int": 4, "{} , ": 3, "[Int] -> Int": 6, "() -> Int)": 9, deepType(40) + "]": 79} {
		wantTypeFault(t, s, api.ErrSyntax, at)
	}
	for s, at := range map[string]int{"x x": 2, "f(1) 2": 5, "[] of Int [": 10, "let x = 1 in x in": 15, "x as Int": 2} {
		wantTermFault(t, s, api.ErrSyntax, at)
	}
	wantTypeFault(t, deepType(41)+" ]", api.ErrDeep, 0)
	wantTermFault(t, "x"+strings.Repeat("()", 40)+" x", api.ErrDeep, 0)
	if s, f := parse.TypeText(strings.Repeat(" ", 4093) + "Int"); f != (api.Fault{}) || !sameShape(s, integer) {
		t.Error(s, f)
	}
	if u, f := parse.TermText(strings.Repeat(" ", 4095) + "x"); f != (api.Fault{}) || !sameTerm(u, api.Term{Kind: api.TmVar, Name: "x", At: 4095}) {
		t.Error(u, f)
	}
	if u, f := parse.TermText(`"` + strings.Repeat("a", 4094) + `"`); f != (api.Fault{}) || len(u.Name) != 4094 {
		t.Error(len(u.Name), f)
	}
}

// TestNothingIsChanged: rule 4, what is handed in is neither changed nor kept, its spare room neither, and what is handed out is new memory, each list of it its own.
func TestNothingIsChanged(t *testing.T) {
	spare := api.Token{Kind: 99, Text: "no", At: -9}
	for _, s := range termSamples {
		scan := scanned(t, s)
		l := append(slices.Clone(scan), spare, spare)
		u, _, f := parse.Term(l[:len(scan)], 0)
		if !slices.Equal(l, append(slices.Clone(scan), spare, spare)) || f != (api.Fault{}) {
			t.Fatalf("Term changes the tokens of %q to %v", s, l)
		}
		want, _ := parse.TermText(s)
		clear(l)
		if !sameTerm(u, want) {
			t.Fatalf("Term keeps the tokens of %q", s)
		}
		wantOwnTerm(t, s, &u)
		if again, _ := parse.TermText(s); !sameTerm(again, want) {
			t.Fatalf("TermText(%q) = %v", s, again)
		}
	}
	for s, want := range typeSamples() {
		scan := scanned(t, s)
		l := append(slices.Clone(scan), spare, spare)
		u, _, f := parse.Type(l[:len(scan)], 0)
		if !slices.Equal(l, append(slices.Clone(scan), spare, spare)) || f != (api.Fault{}) {
			t.Fatalf("Type changes the tokens of %q to %v", s, l)
		}
		clear(l)
		if !sameShape(u, want) {
			t.Fatalf("Type keeps the tokens of %q", s)
		}
		wantOwnShape(t, s, &u)
	}
}

// wantOwnTerm spoils an expression list by list, with the spare room of each, and asks whether a list that is still to come is spoiled by that.
func wantOwnTerm(t *testing.T, s string, u *api.Term) {
	t.Helper()
	wantOwnTexts(t, s, &u.Names)
	wantOwnTexts(t, s, &u.Vars)
	if slices.ContainsFunc(u.Parts, func(part api.Term) bool { return part.Kind < 0 }) || slices.ContainsFunc(u.Shapes, func(part api.Shape) bool { return part.Kind < 0 }) {
		t.Fatalf("two lists of what %q is read as share memory", s)
	}
	for i := range u.Shapes {
		wantOwnShape(t, s, &u.Shapes[i])
	}
	for i := range u.Parts {
		wantOwnTerm(t, s, &u.Parts[i])
	}
	for i := range u.Shapes[:cap(u.Shapes)] {
		u.Shapes[:cap(u.Shapes)][i].Kind = -1
	}
	for i := range u.Parts[:cap(u.Parts)] {
		u.Parts[:cap(u.Parts)][i].Kind = -1
	}
}

func wantOwnShape(t *testing.T, s string, u *api.Shape) {
	t.Helper()
	wantOwnTexts(t, s, &u.Names)
	if slices.ContainsFunc(u.Parts, func(part api.Shape) bool { return part.Kind < 0 }) {
		t.Fatalf("two lists of what %q is read as share memory", s)
	}
	for i := range u.Parts {
		wantOwnShape(t, s, &u.Parts[i])
	}
	for i := range u.Parts[:cap(u.Parts)] {
		u.Parts[:cap(u.Parts)][i].Kind = -1
	}
}

func wantOwnTexts(t *testing.T, s string, l *[]string) {
	t.Helper()
	if slices.Contains(*l, "?") {
		t.Fatalf("two lists of names of what %q is read as share memory", s)
	}
	all := (*l)[:cap(*l)]
	for i := range all {
		all[i] = "?"
	}
}
