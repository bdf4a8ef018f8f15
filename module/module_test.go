package module_test

import (
	"maps"
	"math/rand"
	"reflect"
	"slices"
	"strconv"
	"strings"
	"testing"

	"pandect/api"
	"pandect/lex"
	"pandect/module"
	"pandect/parse"
	"pandect/ranges"
	"pandect/semver"
)

// full is a source with all that a module may have.
const full = "module p\nimport q pin 1.2.3 range ^1.0.0\nimport z pin 2.0.0 range *\ntype A = {a: Int}\nopaque Key = Text\nlet f = fun (x: A) -> x.a\nexport (f, A)"

// shownFull is the text of that module.
const shownFull = "module p\nimport q pin 1.2.3 range >=1.0.0 <2.0.0\nimport z pin 2.0.0 range *\ntype A = {a: Int}\nopaque Key = Text\nlet f = fun (x: A) -> x.a\nexport (f, A)\n"

var (
	longest      = "a" + strings.Repeat("z", 23)
	longestUpper = "A" + strings.Repeat("z", 23)
)

// typeSamples and exprSamples are sources that are types and expressions, each written as its own text.
var (
	typeSamples = []string{"Int", "Any", "Key", "q/Id", "q/Int", "[Text]", "{}", "{b: Int, a: Key}", "<none: {} | some: q/Id>", "() -> Int", "((Int) -> Key, q/Id) -> [Bool]", longest + "/" + longestUpper}
	exprSamples = []string{"0", "999999999999999", `"module p -- \n\" é"`, "true", "x", "q/f", "f(1, x).a", "fun (x: {b: Int, a: q/Id}) -> x", "{b = 1, a = {}}", "@some(1)", "[1, 2] of Int", "if x then 1 else 0 as Int", "case x of {b(y: Int) -> y | a(z: Key) -> 1} as Int", "let x = 1 in let y = x in y", "(x as Int)", "new K(1)", "raw K(x)", "[] of [Int]", "(fun () -> x)()"}
)

// pinSamples are pins, each with ranges that it meets.
var pinSamples = map[string][]string{
	"1.2.3": {"*", "^1.0.0", "^1.2.3", "=1.2.3", ">=1.0.0 <2.0.0", "<=1.2.3", ">1.2.2", "<1.2.4 >1.2.2 =1.2.3 >=1.2.3 <=1.2.3", "=1.2.3 =1.2.3", strings.TrimSpace(strings.Repeat("=1.2.3 ", 20)), ">1.2.3-rc.1"},
	"0.2.3": {"*", "^0.2.0", "<0.3.0"}, "0.0.0-0": {"*", "^0.0.0-0", "=0.0.0-0"}, "999999.999999.999999": {"*", "^999999.999999.999999", ">=1.0.0"}, "1.0.0--": {"=1.0.0--", "^1.0.0--"}, "1.0.0-a-b.0.rc-1": {"<1.0.0", "*"},
}

// sameThing tells whether two things are just the same, a list that is nil and one that is empty, too.
func sameThing(a, b reflect.Value) bool {
	switch a.Kind() {
	case reflect.Struct:
		for i := range a.NumField() {
			if !sameThing(a.Field(i), b.Field(i)) {
				return false
			}
		}
		return true
	case reflect.Slice:
		if a.Len() != b.Len() {
			return false
		}
		for i := range a.Len() {
			if !sameThing(a.Index(i), b.Index(i)) {
				return false
			}
		}
		return true
	}
	return a.Equal(b)
}

// same tells whether two modules are just the same, also their places.
func same(a, b api.Module) bool { return sameThing(reflect.ValueOf(a), reflect.ValueOf(b)) }

// read is the module of a source that has no fault.
func read(t *testing.T, s string) api.Module {
	t.Helper()
	m, f := module.Parse(s)
	if f != (api.Fault{}) {
		t.Fatalf("Parse(%.300q): fault %d at %d", s, int(f.Err), f.At)
	}
	return m
}

// wantFault asks Parse of a source with a fault.
func wantFault(t *testing.T, s string, err api.Errno, at int) {
	t.Helper()
	if m, f := module.Parse(s); f != (api.Fault{Err: err, At: at}) || !same(m, api.Module{}) {
		t.Errorf("Parse(%.300q) = %v, fault %d at %d, want %d at %d", s, m, int(f.Err), f.At, int(err), at)
	}
}

// wantModel asks Parse of a source, against the model; of what is read it asks whether it may be and its text is read as the same (P10.5).
func wantModel(t *testing.T, s string) {
	t.Helper()
	m, f := module.Parse(s)
	if want := modelFault(s); f != want {
		t.Fatalf("Parse(%q): fault %d at %d, want %d at %d", s, int(f.Err), f.At, int(want.Err), want.At)
	}
	if f.Err != api.OK {
		if !same(m, api.Module{}) {
			t.Fatalf("Parse(%q) = %v with fault %d", s, m, int(f.Err))
		}
		return
	}
	text, err := module.Show(m)
	if module.Check(m) != api.OK || err != api.OK {
		t.Fatalf("Parse(%q) = %v, which may not be, error %d", s, m, int(err))
	}
	if back, f := module.Parse(text); f != (api.Fault{}) || !same(module.Bare(back), module.Bare(m)) {
		t.Fatalf("Parse(%q) = %v, whose text %q is read as %v, fault %d at %d", s, m, text, back, int(f.Err), f.At)
	}
}

// placed are tokens written with blanks between, as many as make no two of them one.
func placed(l []api.Token) string {
	var b strings.Builder
	for _, token := range l {
		if text, err := lex.Show(token); err == api.OK {
			b.WriteString(text + " ")
		}
	}
	return b.String()
}

// tokensOf are the tokens of sources, each once, without places and ends.
func tokensOf(t *testing.T, sources ...string) []api.Token {
	t.Helper()
	var l []api.Token
	for _, s := range sources {
		for _, token := range scanned(t, s) {
			token.At = 0
			if !slices.Contains(l, token) {
				l = append(l, token)
			}
		}
	}
	return l
}

// scanned are a source's tokens but for the TokEnd.
func scanned(t *testing.T, s string) []api.Token {
	t.Helper()
	l, f := lex.Scan(s)
	if f != (api.Fault{}) {
		t.Fatalf("Scan(%.80q): fault %d at %d", s, int(f.Err), f.At)
	}
	return l[:len(l)-1]
}

// TestExamples: P10.1, P10.2, P10.3, the chapter's examples.
func TestExamples(t *testing.T) {
	m := read(t, "module p import q pin 1.2.3 range ^1.0.0 type A = {a: Int} let f = fun (x: A) -> x.a export (f, A)")
	if len(m.Imports) != 1 || len(m.Decls) != 2 || !slices.Equal(m.Exports, []string{"f", "A"}) || module.Check(m) != api.OK {
		t.Error(m)
	}
	wantFault(t, "module p import p pin 1.0.0 range * export ()", api.ErrTwice, 16)
}

// TestTree: P10.1, all fields of all that a module may have, with all places.
func TestTree(t *testing.T) {
	record := api.Shape{Kind: api.ShRecord, Names: []string{"a"}, Parts: []api.Shape{{Kind: api.ShInt}}}
	x := api.Term{Kind: api.TmVar, Name: "x", At: 126}
	field := api.Term{Kind: api.TmField, Name: "a", Parts: []api.Term{x}, At: 126}
	want := api.Module{
		Name: "p",
		Imports: []api.Import{
			{Name: "q", Pin: api.Version{Major: 1, Minor: 2, Patch: 3}, Range: []api.Bound{{Op: api.Least, V: api.Version{Major: 1}}, {Op: api.Below, V: api.Version{Major: 2}}}, At: 9},
			{Name: "z", Pin: api.Version{Major: 2}, At: 41},
		},
		Decls: []api.Decl{
			{Kind: api.DeType, Name: "A", Shape: record, At: 68},
			{Kind: api.DeOpaque, Name: "Key", Shape: api.Shape{Kind: api.ShText}, At: 86},
			{Kind: api.DeLet, Name: "f", Term: api.Term{Kind: api.TmFun, Names: []string{"x"}, Shapes: []api.Shape{{Kind: api.ShName, Name: "A"}}, Parts: []api.Term{field}, At: 112}, At: 104},
		},
		Exports: []string{"f", "A"},
		At:      130,
	}
	if m := read(t, full); !same(m, want) {
		t.Errorf("Parse = %v, want %v", m, want)
	}
	if m := read(t, " module p export () "); !same(m, api.Module{Name: "p", At: 10}) {
		t.Error(m)
	}
	if m := read(t, "-- a\nmodule "+longest+" export (Int, export1, "+longest+", "+longestUpper+") -- )"); !same(m, api.Module{Name: longest, Exports: []string{"Int", "export1", longest, longestUpper}, At: 37}) {
		t.Error(m)
	}
}

// TestRanges: P10.1, a range as it is written.
func TestRanges(t *testing.T) {
	for pin, l := range pinSamples {
		v, _ := semver.Parse(pin)
		for _, text := range l {
			bounds, err := ranges.Parse(text)
			want := api.Module{Name: "p", Imports: []api.Import{{Name: "q", Pin: v, Range: bounds, At: 9}}}
			for _, written := range []string{text, strings.NewReplacer("=", "= ", "^", "^\n").Replace(text)} {
				if strings.Contains(text, "<=") || strings.Contains(text, ">=") {
					written = strings.NewReplacer("< =", "<=", "> =", ">=").Replace(written)
				}
				s := "module p import q pin " + pin + " range " + written + " export ()"
				want.At = len(s) - len("export ()")
				if m := read(t, s); err != api.OK || !same(m, want) {
					t.Errorf("Parse(%q) = %v, want %v", s, m, want)
				}
			}
		}
	}
}

// TestSyntax: P10.1, ErrSyntax at the first token that does not fit.
func TestSyntax(t *testing.T) {
	for s, at := range map[string]int{
		"": 0, " ": 1, "-- module p": 11, "p": 0, "Module p": 0, "export ()": 0, "module": 6, "module P": 7, "module in": 7, "module 1": 7, `module "p"`: 7, "module module": 7, "module p": 8, "module p p": 9, "module p export": 15, "module p export f": 16, "module p export (": 17, "module p export (f": 18, "module p export (f,": 19, "module p export (f,)": 19, "module p export (,)": 17, "module p export (f g)": 19, "module p export (f | g)": 19, "module p export (f}": 18, "module p export (in)": 17, "module p export (1)": 17, "module p export (q/f)": 18, "module p export ()x": 18, "module p export () export ()": 19, "module p export () let f = 1": 19, "module p export () )": 19, "module p export () module p export ()": 19,
		"module p import": 15, "module p import Q": 16, "module p import q": 17, "module p import q range": 18, "module p import q pin": 21, "module p import q pin 1": 22, "module p import q pin *": 22, "module p import q pin ^1.0.0": 22, "module p import q pin =1.0.0": 22, "module p import q pin x": 22, "module p import q pin 1.0.0": 27, "module p import q pin 1.0.0 export": 28, "module p import q pin 1.0.0 range": 33, "module p import q pin 1.0.0 range 1.0.0": 34, "module p import q pin 1.0.0 range ^": 35, "module p import q pin 1.0.0 range ^ export": 36, "module p import q pin 1.0.0 range ^*": 35, "module p import q pin 1.0.0 range ^^": 35, "module p import q pin 1.0.0 range ^1": 35, "module p import q pin 1.0.0 range ^=1.0.0": 35, "module p import q pin 1.0.0 range =": 35, "module p import q pin 1.0.0 range = =1.0.0": 36, "module p import q pin 1.0.0 range > =1.0.0": 36, "module p import q pin 1.0.0 range =*": 35, "module p import q pin 1.0.0 range -> 1.0.0": 34, "module p import q pin 1.0.0 range (": 34, "module p import q pin 1.0.0 range * *": 36, "module p import q pin 1.0.0 range * =1.0.0": 36, "module p import q pin 1.0.0 range * ^1.0.0": 36, "module p import q pin 1.0.0 range ^1.0.0 =1.0.0": 41, "module p import q pin 1.0.0 range ^1.0.0 ^1.0.0": 41, "module p import q pin 1.0.0 range =1.0.0 ^1.0.0": 41, "module p import q pin 1.0.0 range =1.0.0 *": 41, "module p import q pin 1.0.0 range =1.0.0 1.0.0": 41, "module p import q pin 1.0.0 range =1.0.0,": 40, "module p import q pin 1.0.0 range =1.0.0": 40, "module p import q pin 1.0.0 range *": 35, "module p import q pin 1.0.0 range =1.0.0 <": 42, "module p import q pin 1.0.0 range =1.0.0 < export": 43, "module p import q pin 1.0.0 range * pin": 36,
		"module p type": 13, "module p type a": 14, "module p type A": 15, "module p type A Int": 16, "module p type A =": 17, "module p type A = export": 18, "module p type A = 1": 18, "module p type A = int": 21, "module p type A = Int": 21, "module p type A = Int Int": 22, "module p type A = Int,": 21, "module p type A = (Int)": 23, "module p type q/A = Int": 14, "module p type A: Int": 15, "module p opaque": 15, "module p opaque k = Int": 16, "module p opaque K = x": 21, "module p let": 12, "module p let F": 13, "module p let f": 14, "module p let f 1": 15, "module p let f =": 16, "module p let f = export": 17, "module p let f = Int": 17, "module p let f = 1": 18, "module p let f = 1 2": 19, "module p let f = 1 in 2": 19, "module p let f = (1": 19, "module p let f = x as Int": 19, "module p let f = let x = 1 export ()": 27, "module p let f : Int = 1": 15, "module p let q/f = 1": 14, "module p let let = 1": 13,
		"module p type A = Int import q pin 1.0.0 range *": 22, "module p let f = 1 import q pin 1.0.0 range *": 19, "module p module p": 9, "module p in": 9, "module p (": 9, "module p fun": 9,
	} {
		wantFault(t, s, api.ErrSyntax, at)
		wantFault(t, "\n"+s, api.ErrSyntax, at+1)
	}
}

// TestTwice: P10.1, ErrTwice at a name that is there already, unless something ahead of it does not fit.
func TestTwice(t *testing.T) {
	for s, at := range map[string]int{
		"module p import p": 16, "module p import p p": 16, "module p import q pin 1.0.0 range * import q": 43, "module p import q pin 1.0.0 range * import p": 43, "module p import q pin 1.0.0 range * import r pin 1.0.0 range * import q pin": 70, "module p import q pin 1.0.0 range =1.0.0 import q 1": 48,
		"module p type Int": 14, "module p type Bool = Int export ()": 14, "module p type Text": 14, "module p type Any = Any": 14, "module p opaque Int = 1": 16, "module p opaque Any": 16, "module p type A = Int type A = Int": 27, "module p type A = Int opaque A": 29, "module p opaque A = Int type A": 29, "module p opaque A = Int opaque A 1": 31, "module p let f = 1 let f": 23, "module p let f = 1 type F = Int let g = 1 let f = (": 46, "module p type A = Int let f = 1 type B = Int type A": 50,
		"module p export (f, f": 20, "module p export (A, f, g, A)": 26, "module p export (f, g, g 1": 23, "module p export (f, F, f, f)": 23, "module p export (Int, Int)": 22,
		// What layer 9 tells of names.
		"module p let f = {a = 1, a = 2} export ()": 25, "module p type A = {a: Int, a": 27, "module p let f = fun (x: Int, x": 30, "module p opaque A = <a: Int | a: Int> type A": 30,
	} {
		wantFault(t, s, api.ErrTwice, at)
	}
	for s, at := range map[string]int{"module p import q 1 import q": 18, "module p type int": 14, "module p let Int": 13, "module p let f 1 let f": 15, "module p export (f f)": 19, "module p import q pin 1.0.0 range import q": 34} {
		wantFault(t, s, api.ErrSyntax, at)
	}
	for _, s := range []string{
		"module p import q pin 1.0.0 range * import r pin 1.0.0 range * let p = 1 let q = 2 type P = Int type Q = Int opaque R = Int export (p, q, P, Q, r)",
		"module p let int = 1 let any = 1 type INT = Int type Ints = Int let f = 1 type F = Int export (int, Int, f, F)", "module p import q pin 1.0.0 range * let f = {a = {a = 1}} let a = 1 export (a, q, p)",
	} {
		wantModel(t, s)
		read(t, s)
	}
}

// imports is the text of so many imports.
func imports(n int) string {
	var b strings.Builder
	for i := range n {
		b.WriteString(" import q" + strconv.Itoa(i) + " pin 1.0.0 range *")
	}
	return b.String()
}

// exports is the text of so many exports.
func exports(n int) string {
	var l []string
	for i := range n {
		l = append(l, []string{"x", "X"}[i%2]+strconv.Itoa(i))
	}
	return strings.Join(l, ", ")
}

// TestBig: P10.1, ErrBig at the ninth import's name, at the 21st bound's sign, at the 61st export, unless it does not fit, or is there already.
func TestBig(t *testing.T) {
	s := "module p" + imports(8)
	if m := read(t, s+" export ()"); len(m.Imports) != 8 || m.Imports[7].Name != "q7" {
		t.Error(m)
	}
	for _, behind := range []string{"", " pin", " 1", " pin 1.0.0 range *"} {
		wantFault(t, s+" import q8"+behind, api.ErrBig, len(s)+8)
		wantFault(t, s+" import p"+behind, api.ErrTwice, len(s)+8)
		wantFault(t, s+" import q0"+behind, api.ErrTwice, len(s)+8)
		wantFault(t, s+" import q7"+behind, api.ErrTwice, len(s)+8)
		wantFault(t, s+" import Q"+behind, api.ErrSyntax, len(s)+8)
		wantFault(t, s+" import in"+behind, api.ErrSyntax, len(s)+8)
	}
	wantFault(t, s+" import", api.ErrSyntax, len(s)+7)
	wantFault(t, "module p"+imports(20), api.ErrBig, len(s)+8)

	for _, bound := range []string{"=1.0.0", ">= 1.0.0", "<=1.0.0", ">0.9.0", "<2.0.0"} {
		s := "module p import q pin 1.0.0 range" + strings.Repeat(" "+bound, 20)
		if m := read(t, s+" export ()"); len(m.Imports[0].Range) != 20 {
			t.Error(m)
		}
		for _, sign := range []string{"<", "<=", "=", ">=", ">"} {
			for _, behind := range []string{"", "1.0.0", "3.0.0", " 1", " export"} {
				wantFault(t, s+" "+sign+behind, api.ErrBig, len(s)+1)
			}
		}
		wantFault(t, s+" ^1.0.0", api.ErrSyntax, len(s)+1)
		wantFault(t, s, api.ErrSyntax, len(s))
	}
	long := "module p import q pin 1.0.0 range" + strings.Repeat(" =1.0.0", 30)
	wantFault(t, long, api.ErrBig, 33+20*7+1)
	// Of each import on its own.
	two := "module p import q pin 1.0.0 range" + strings.Repeat(" =1.0.0", 20) + " import r pin 1.0.0 range" + strings.Repeat(" =1.0.0", 20)
	read(t, two+" export ()")
	wantFault(t, two+" <2.0.0", api.ErrBig, len(two)+1)

	s = "module p export (" + exports(60)
	if m := read(t, s+")"); len(m.Exports) != 60 || m.Exports[59] != "X59" {
		t.Error(m)
	}
	for _, behind := range []string{"", ")", ",", " 1"} {
		wantFault(t, s+", y"+behind, api.ErrBig, len(s)+2)
		wantFault(t, s+", Y"+behind, api.ErrBig, len(s)+2)
		wantFault(t, s+", x0"+behind, api.ErrTwice, len(s)+2)
		wantFault(t, s+", X59"+behind, api.ErrTwice, len(s)+2)
		wantFault(t, s+", in"+behind, api.ErrSyntax, len(s)+2)
	}
	wantFault(t, s+",", api.ErrSyntax, len(s)+1)
	wantFault(t, "module p export ("+exports(100)+")", api.ErrBig, len(s)+2)
}

// TestMany: P10.1, P10.2, as many declarations as there is room for.
func TestMany(t *testing.T) {
	var b strings.Builder
	b.WriteString("module p")
	for i := range 300 {
		b.WriteString([]string{"type T", "opaque T", "let t"}[i%3] + strconv.Itoa(i) + []string{"=A ", "=A ", "=1 "}[i%3])
	}
	s := strings.Replace(b.String(), "module p", "module p ", 1)
	if m := read(t, s+"export ()"); len(m.Decls) != 300 || m.Decls[299].Name != "t299" {
		t.Error(m)
	}
	for _, name := range []string{"type T0", "opaque T150", "let t299"} {
		wantFault(t, s+name, api.ErrTwice, len(s)+strings.Index(name, " ")+1)
	}
}

// TestRange: P10.1, ErrRange at the version behind pin, when the range is read: ahead of what stands behind it, behind what stands in it.
func TestRange(t *testing.T) {
	for pin, l := range map[string][]string{
		"1.0.0": {"^2.0.0", "^1.0.1", "^0.1.0", "=1.0.1", ">1.0.0", "<1.0.0", ">=1.0.1", "<=0.9.9", ">=1.0.0 <1.0.0", "=1.0.0 =1.0.0 <1.0.0", "=2.0.0 =1.0.0", "=1.0.0-a", "^999999.0.0", strings.TrimSpace(strings.Repeat("=1.0.0 ", 19) + "=1.0.1")},
		"2.0.0": {"^1.0.0"}, "1.0.0-rc.1": {"^1.0.0", ">=1.0.0", "=1.0.0-rc.2"}, "0.3.0": {"^0.2.0"},
	} {
		for _, text := range l {
			s := "module p import q pin " + pin + " range " + text
			for _, behind := range []string{"", " export ()", " x", " 1", " import p", " import q", " )", " *", " ^1.0.0", " 1.0.0", " type Int"} {
				wantFault(t, s+behind, api.ErrRange, 22)
			}
			if text[0] == '^' {
				wantFault(t, s+" =1.0.0", api.ErrRange, 22)
				continue
			}
			n := strings.Count(text, " ") + 1
			all := s + strings.Repeat(" =1.0.0", 20-n)
			wantFault(t, all+" export ()", api.ErrRange, 22)
			wantFault(t, all+" =1.0.0", api.ErrBig, len(all)+1)
			if n < 20 {
				wantFault(t, s+" =", api.ErrSyntax, len(s)+2)
				wantFault(t, s+" = export", api.ErrSyntax, len(s)+3)
			}
		}
	}
	wantFault(t, "module p import q pin 1.0.0 range * import r pin  1.0.0 range ^2.0.0 import r", api.ErrRange, 50)
}

// TestWithin: P10.1, the faults of types and expressions, there.
func TestWithin(t *testing.T) {
	wide, deep := "("+strings.Repeat("A,", 398)+"A)->A", strings.Repeat("[", 40)+"A"+strings.Repeat("]", 40)
	long := strings.Repeat("@a(", 40) + "1" + strings.Repeat(")", 40)
	for s, err := range map[string]api.Errno{wide: api.ErrBig, deep: api.ErrDeep} {
		for _, ahead := range []string{"module p type A = ", "module p opaque A =", "module p type A = Int type B = "} {
			for _, behind := range []string{"", " export ()", " 1", ")", " type Int", " type A"} {
				wantFault(t, ahead+s+behind, err, len(ahead))
			}
			wantFault(t, ahead+s[:len(s)-1], api.ErrSyntax, len(ahead)+len(s)-1)
		}
		at := "module p let f = fun (x: "
		wantFault(t, at+s+") -> 1 export ()", err, len(at))
	}
	for _, behind := range []string{"", " export ()", " 1", ")", " let f = 1"} {
		wantFault(t, "module p let f = "+long+behind, api.ErrDeep, 17)
		wantFault(t, "module p let g = 1 let f = "+long+behind, api.ErrDeep, 27)
	}
	read(t, "module p let f = "+long[3:len(long)-1]+" type A = "+deep[1:len(deep)-1]+" type B = "+strings.Replace(wide, "A,", "", 1)+" export ()")
}

// TestScan: P10.1, Scan's fault goes ahead of all others.
func TestScan(t *testing.T) {
	for s, want := range map[string]api.Fault{
		"module \xff": {Err: api.ErrToken, At: 7}, "export #": {Err: api.ErrToken, At: 7}, "module p import p 1.2": {Err: api.ErrToken, At: 18}, "module p import q pin 1.0.0 range ^2.0.0 \"\xff": {Err: api.ErrUTF, At: 42}, "x -- \xff": {Err: api.ErrUTF, At: 5}, strings.Repeat(" ", 4097): {Err: api.ErrBig, At: 4096}, strings.Repeat("x", 5000): {Err: api.ErrBig, At: 4096}, strings.Repeat(")", 4096): {Err: api.ErrSyntax}, strings.Repeat(" ", 4096): {Err: api.ErrSyntax, At: 4096}, "module " + longest + "z": {Err: api.ErrToken, At: 7}, "module p import q pin 1000000.0.0": {Err: api.ErrToken, At: 22}, "module p import q pin 01.0.0": {Err: api.ErrToken, At: 22},
	} {
		wantFault(t, s, want.Err, want.At)
	}
	blank := strings.Repeat(" ", 4096-18)
	if m := read(t, blank+"module p export ()"); m.At != 4096-9 {
		t.Error(m)
	}
	wantFault(t, blank+"module p  export ()", api.ErrBig, 4096)
	wantFault(t, "module p let f = "+strings.Repeat("(", 4096-17), api.ErrSyntax, 4096)
	wantFault(t, "module p type A ="+strings.Repeat("[", 4096-17), api.ErrSyntax, 4096)
}

// samples are sources of modules.
func samples() []string {
	l := []string{full, shownFull, "module p export ()", "module p export (f)", "module p import q pin 1.0.0 range =1.0.0 <2.0.0 export (A, f)", "module p import q pin 0.0.0-0 range ^0.0.0-0 import r pin 1.0.0 range * import s pin 1.0.0 range >=1.0.0 let f = 1 export (f)", "module p type A = [Int] opaque B = {} let f = x.a export (A, B, f)"}
	for i, expr := range exprSamples {
		l = append(l, "module p let f = "+expr+" type A = "+typeSamples[i%len(typeSamples)]+" let g = "+expr+" export (f, g)")
	}
	return l
}

// TestAll: P10.1, P10.5, all short lists of tokens up to the first one that does not fit, behind several beginnings, against the chapter's grammar.
func TestAll(t *testing.T) {
	all := tokensOf(t, `module p import q pin 1.0.0 range * ^ 2.0.0 < <= = >= > type A Int opaque let export ( , ) f 1 "" in as of . / : [ ] { }`)
	few := tokensOf(t, "import q p pin 1.0.0 range * ^ 2.0.0 <= = type A let export ( , ) f 1")
	var grow func(s string, tokens []api.Token, n int)
	grow = func(s string, tokens []api.Token, n int) {
		wantModel(t, s)
		if f := modelFault(s); n == 0 || f.Err != api.OK && f.At != len(s) {
			return
		}
		for _, token := range tokens {
			grow(s+placed([]api.Token{token}), tokens, n-1)
		}
	}
	grow("", all, 4)
	for _, s := range []string{"module p ", "module p import q pin 1.0.0 ", "module p import q pin 1.0.0 range * import ", "module p import q pin 1.0.0 range ^ 1.0.0 ", "module p type A = Int ", "module p let f = 1 ", "module p export ( ", "module p export ( f , "} {
		grow(s, all, 4)
	}
	grow("module p import q pin 1.0.0 range ", few, 6)
	grow("module p ", few, 6)
}

// TestChanged: P10.1, P10.5, sources with a token too many, too few, another one, two that are swapped, or cut off, against the chapter's grammar.
func TestChanged(t *testing.T) {
	all := tokensOf(t, full, `q/Id 1.0.0 2.0.0 < <= = >= > ^ "" 1 | -> as in Int B export1 p`)
	for _, s := range samples() {
		l := scanned(t, s)
		wantModel(t, s)
		for i := range len(l) + 1 {
			wantModel(t, placed(l[:i]))
			for _, token := range all {
				wantModel(t, placed(slices.Insert(slices.Clone(l), i, token)))
				if i < len(l) {
					wantModel(t, placed(slices.Concat(l[:i], []api.Token{token}, l[i+1:])))
				}
			}
			if i < len(l) {
				wantModel(t, placed(slices.Concat(l[:i], l[i+1:])))
				swapped := slices.Clone(l)
				swapped[i], swapped[(i+1)%len(l)] = swapped[(i+1)%len(l)], swapped[i]
				wantModel(t, placed(swapped))
			}
		}
		for i := range s {
			wantModel(t, s[:i])
			wantModel(t, s[i:])
		}
	}
}

// writer writes modules with blanks and remarks where they may stand.
type writer struct {
	strings.Builder
	r *rand.Rand
}

// put writes tokens, parted by blanks, and tells the place of the first one.
func (w *writer) put(tokens ...string) int {
	at := -1
	for _, token := range tokens {
		w.WriteString([]string{" ", " ", " ", "\n", " \t\r", " -- export (\n"}[w.r.Intn(6)])
		if at < 0 {
			at = w.Len()
		}
		w.WriteString(token)
	}
	return at
}

// anyOf tells any of some things.
func anyOf[E any](r *rand.Rand, l ...E) E { return l[r.Intn(len(l))] }

// some are some of some names, in any order.
func some(r *rand.Rand, l ...string) []string {
	r.Shuffle(len(l), func(i, j int) { l[i], l[j] = l[j], l[i] })
	return l[:r.Intn(len(l)+1)]
}

// moved is an expression some bytes on.
func moved(u api.Term, on int) api.Term {
	u.At += on
	u.Parts = slices.Clone(u.Parts)
	for i, part := range u.Parts {
		u.Parts[i] = moved(part, on)
	}
	return u
}

// anyImport writes an import.
func (w *writer) anyImport(name string) api.Import {
	pin := anyOf(w.r, slices.Sorted(maps.Keys(pinSamples))...)
	text := anyOf(w.r, pinSamples[pin]...)
	one := api.Import{Name: name, At: w.put("import")}
	one.Pin, _ = semver.Parse(pin)
	one.Range, _ = ranges.Parse(text)
	w.put(name, "pin", pin, "range")
	l, _ := lex.Scan(text)
	for _, token := range l[:len(l)-1] {
		w.put(token.Text)
	}
	return one
}

// anyDecl writes a declaration.
func (w *writer) anyDecl(name string) api.Decl {
	d := api.Decl{Name: name}
	if lex.Name(name) {
		text := anyOf(w.r, exprSamples...)
		d.Kind, d.At = api.DeLet, w.put("let")
		w.put(name, "=")
		u, _ := parse.TermText(text)
		d.Term = moved(u, w.put(text))
		return d
	}
	text := anyOf(w.r, typeSamples...)
	if d.Kind = api.DeType; w.r.Intn(2) == 0 {
		d.Kind = api.DeOpaque
	}
	d.At = w.put(map[int]string{api.DeType: "type", api.DeOpaque: "opaque"}[d.Kind])
	w.put(name, "=", text)
	d.Shape, _ = parse.TypeText(text)
	return d
}

// anyModule tells a module that may be, and a source of it.
func anyModule(r *rand.Rand) (string, api.Module) {
	w := &writer{r: r}
	m := api.Module{Name: anyOf(r, "p", "f", longest)}
	w.put("module", m.Name)
	for _, name := range some(r, "q", "z", "g", "imports", "a1", "b", "c", "d") {
		m.Imports = append(m.Imports, w.anyImport(name))
	}
	for _, name := range some(r, "f", "g", "q", "p", "A", "B", "Ints", longestUpper, "a", "b") {
		m.Decls = append(m.Decls, w.anyDecl(name))
	}
	m.At = w.put("export")
	w.put("(")
	for i, name := range some(r, "f", "F", "Int", "p", "g", longest) {
		if m.Exports = append(m.Exports, name); i > 0 {
			w.put(",")
		}
		w.put(name)
	}
	w.put(")")
	return w.String() + anyOf(r, "", " ", "\n-- \n"), m
}

// TestBack: P10.1, P10.4, P10.5, modules are read from what they are written as, with all places; from their text they are read as Bare's the same.
func TestBack(t *testing.T) {
	r := rand.New(rand.NewSource(10))
	read := 0
	for range 5000 {
		s, m := anyModule(r)
		if len(s) > 4096 {
			continue
		}
		read++
		if got, f := module.Parse(s); f != (api.Fault{}) || !same(got, m) {
			t.Fatalf("Parse(%q) = %v, fault %d at %d, want %v", s, got, int(f.Err), f.At, m)
		}
		text, err := module.Show(m)
		if err != api.OK {
			t.Fatalf("Show of what %q is read as: error %d", s, int(err))
		}
		bare := module.Bare(m)
		if again, err := module.Show(bare); again != text || err != api.OK || !same(module.Bare(bare), bare) {
			t.Fatalf("Bare of %v is %v, its text %q", m, bare, again)
		}
		if back, f := module.Parse(text); f != (api.Fault{}) || !same(module.Bare(back), bare) {
			t.Fatalf("%q is read as %v, fault %d at %d, want %v", text, back, int(f.Err), f.At, bare)
		}
	}
	if read < 4000 {
		t.Error(read)
	}
}
