package check_test

import (
	"math"
	"reflect"
	"slices"
	"strconv"
	"strings"
	"testing"

	"pandect/api"
	"pandect/check"
	"pandect/module"
	"pandect/sample"
	"pandect/shape"
)

// packs are interfaces of packages q and r.
func packs() []api.Dep {
	return []api.Dep{
		{Name: "q", Items: sample.Face("opaque Key", "type P {x: Int, y: Int}", "type Dyn Any", "type Opt <none: {} | some: Int>", "let any Any", "let g (Int) -> Text", "let key (Int) -> q/Key", "let num (q/Key) -> Int", "let zero {x: Int, y: Int}")},
		{Name: "r", Items: sample.Face("opaque K", "type P Text", "type Mine r/K", "let f Int", "let k r/K", "let key (q/Key) -> r/K")},
	}
}

// importing is the text of a module p that imports q and r.
func importing(rest string) string {
	return "module p import q pin 1.0.0 range ^1.0.0 import r pin 2.1.0 range * " + rest
}

// key is a text that only one interface has.
func key(items []api.Item) string {
	text := ""
	for _, item := range items {
		text += strconv.Itoa(item.Kind) + " " + item.Name + " " + sample.Key(item.Shape) + "\n"
	}
	return text
}

// want asks for a module's interface, or for a fault.
func want(t *testing.T, m api.Module, deps []api.Dep, items []api.Item, fault api.Fault) {
	t.Helper()
	got, first := check.Module(m, deps...)
	if first != fault || key(got) != key(items) {
		text, _ := module.Show(m)
		t.Errorf("%.1000s: %.1000s, %v, not %.1000s, %v", text, key(got), first, key(items), fault)
	}
}

// wantModel asks for what the model answers.
func wantModel(t *testing.T, m api.Module, deps []api.Dep) ([]api.Item, api.Fault) {
	t.Helper()
	items, fault := modelModule(m, deps)
	want(t, m, deps, items, fault)
	return items, fault
}

// wantSource asks for the module and the interface of a source.
func wantSource(t *testing.T, text string, deps []api.Dep, items []api.Item) {
	t.Helper()
	m, got, fault := check.Source(text, deps...)
	if fault != (api.Fault{}) || key(got) != key(items) || !reflect.DeepEqual(m, sample.Module(text)) {
		t.Errorf("%.1000s: %v, %.1000s, %v, not %.1000s", text, m, key(got), fault, key(items))
	}
	want(t, sample.PlacedModule(sample.Module(text), 7), deps, items, api.Fault{})
}

// wantFault asks for a fault of a source, where the mark ^^ stands in it, which is no part of it.
func wantFault(t *testing.T, text string, deps []api.Dep, err api.Errno) {
	t.Helper()
	ahead, behind, marked := strings.Cut(text, "^^")
	if !marked {
		t.Fatal(text)
	}
	m, items, fault := check.Source(ahead+behind, deps...)
	if (fault != api.Fault{Err: err, At: len(ahead)}) || items != nil || !reflect.DeepEqual(m, api.Module{}) {
		t.Errorf("%.1000s: %v, %v, %v, not %v at %d", text, m, items, fault, err, len(ahead))
	}
	if m, fault := module.Parse(ahead + behind); fault == (api.Fault{}) {
		wantModel(t, m, deps)
		wantModel(t, sample.PlacedModule(m, 7), deps)
	}
}

// TestExamples: the chapter's examples.
func TestExamples(t *testing.T) {
	text := "module p import q pin 1.0.0 range * let f = q/g(1) export (f)"
	wantSource(t, text, []api.Dep{{Name: "q", Items: sample.Face("let g (Int) -> Text")}}, sample.Face("let f Text"))
	wantFault(t, strings.Replace(text, "import", "^^import", 1), nil, api.ErrUnknown)
	wantFault(t, "module p ^^export (f)", nil, api.ErrExport)
}

// TestItems: P15.1, P15.2, what modules export, in the order of names.
func TestItems(t *testing.T) {
	for _, c := range [][2]string{
		{"export ()", ""},
		{"type A = Int let f = 1 export ()", ""},
		{"type A = Int export (A)", "type A Int"},
		{"type A = {b: Int, a: <d: Int | c: {}>} export (A)", "type A {a: <c: {} | d: Int>, b: Int}"},
		{"opaque K = Int export (K)", "opaque K"},
		{"opaque K = {b: q/Key, a: r/P} export (K)", "opaque K"},
		{"let f = 1 export (f)", "let f Int"},
		{"let f = {b = 1, a = true} export (f)", "let f {a: Bool, b: Int}"},
		{"let b = 1 let ab = true let a = \"\" type B = Text opaque A = Int export (b, a, B, ab, A)", "opaque A;type B Text;let a Text;let ab Bool;let b Int"},
		{"let a_ = 1 let a = 2 let aB = 3 let a1 = 4 type A = Int type AB = Int export (a_, a1, AB, aB, a, A)", "type A Int;type AB Int;let a Int;let a1 Int;let aB Int;let a_ Int"},

		// Names of types stand for what was declared ahead, for what packages export, and for what these stand for.
		{"type A = Int type B = [A] type C = {b: B, a: A} export (C, A)", "type A Int;type C {a: Int, b: [Int]}"},
		{"type A = q/P type B = r/P type C = {k: r/K, m: r/Mine, q: q/Key} export (A, B, C)", "type A {x: Int, y: Int};type B Text;type C {k: r/K, m: r/K, q: q/Key}"},
		{"opaque K = Int type A = [K] type B = {k: A, r: r/K} export (B)", "type B {k: [p/K], r: r/K}"},
		{"opaque K = Int opaque L = [K] type A = {k: K, l: L} export (A, L)", "type A {k: p/K, l: p/L};opaque L"},
		{"type P = Bool type Key = q/Key type Opt = <some: P> export (P, Key, Opt)", "type Key q/Key;type Opt <some: Bool>;type P Bool"},
		{"type Z = Any export (Z)", "type Z Any"},
		{"let f = fun (k: q/Key, p: q/P, d: q/Dyn) -> [k] of q/Key export (f)", "let f (q/Key, {x: Int, y: Int}, Any) -> [q/Key]"},
		{"type A = {b: Int, a: q/P} let f = fun (x: A) -> x let g = [] of A export (f, g)", "let f ({a: {x: Int, y: Int}, b: Int}) -> {a: {x: Int, y: Int}, b: Int};let g [{a: {x: Int, y: Int}, b: Int}]"},
		{"let f = case q/any of {some(x: q/P) -> x.x | none(x: {}) -> 0} as Int export (f)", "let f Int"},
		{"let f = fun (o: q/Opt) -> case o of {some(x: Int) -> x | none(x: {}) -> 0} as q/Dyn export (f)", "let f (<none: {} | some: Int>) -> Any"},
		{"let f = if true then q/zero else {x = 1, z = 2, y = 3} as q/P export (f)", "let f {x: Int, y: Int}"},
		{"let f = q/zero let g = (q/zero as {}) let h = {q = q/zero} export (g, f, h)", "let f {x: Int, y: Int};let g {};let h {q: {x: Int, y: Int}}"},
		{"let f = {k = q/key(1), n = q/num(q/key(2)), r = r/key(q/key(3)), f = r/f, a = q/any.b(1)} export (f)", "let f {a: Any, f: Int, k: q/Key, n: Int, r: r/K}"},

		// Values stand for what was declared ahead, then for what is there always; those of packages have their names ahead.
		{"let f = 1 let g = {f = f} let h = [g] of {f: Int} export (h, g, f)", "let f Int;let g {f: Int};let h [{f: Int}]"},
		{"let f = add let g = f(1, 2) let h = show(g) export (f, g, h)", "let f (Int, Int) -> Int;let g Int;let h Text"},
		{"let add = add(1, 2) let sub = {a = add} export (add, sub)", "let add Int;let sub {a: Int}"},
		{"let show = fun (n: Int) -> {n = n, s = show(n)} let f = show(1) export (f)", "let f {n: Int, s: Text}"},
		{"let zero = true let g = q/g let f = {a = zero, b = q/zero, g = g(1), h = q/g(1)} export (f)", "let f {a: Bool, b: {x: Int, y: Int}, g: Text, h: Text}"},
		{"let f = true let key = {a = r/f, b = f} let g = {a = r/key, b = q/key, c = key} export (g)", "let g {a: (q/Key) -> r/K, b: (Int) -> q/Key, c: {a: Int, b: Bool}}"},
		{"let f = let f = 1 in {f = f} let g = f.f let h = fun (f: Text) -> f let i = f export (f, g, h, i)", "let f {f: Int};let g Int;let h (Text) -> Text;let i {f: Int}"},
		{"let f = fun (x: Any) -> 1 let g = f(q/any) let h = q/any(f) export (f, g, h)", "let f (Any) -> Int;let g Int;let h Any"},
		{"let not = 1 let both = 2 let cat = 3 let size = 4 let f = {a = not, b = same(cat, size)} export (f)", "let f {a: Int, b: Bool}"},

		// The module's own types, and what they are made of.
		{"opaque K = Int let f = new K(1) let g = raw K(f) export (f, g)", "let f p/K;let g Int"},
		{"opaque Key = {b: Int, a: q/Key} let f = fun (k: q/Key) -> new Key({a = k, b = 1}) export (f, Key)", "opaque Key;let f (q/Key) -> p/Key"},
		{"opaque Key = {b: Int, a: q/Key} let f = fun (k: Key) -> raw Key(k) let g = fun (k: Key) -> f(k).a export (f, g)", "let f (p/Key) -> {a: q/Key, b: Int};let g (p/Key) -> q/Key"},
		{"opaque K = Int opaque L = [K] let f = new L([new K(1)] of K) let g = raw L(f) let h = fun (l: L) -> l export (f, g, h)", "let f p/L;let g [p/K];let h (p/L) -> p/L"},
		{"type A = Int opaque K = A type B = K let f = fun (b: B) -> raw K(b) let g = f(new K(1)) export (f, g)", "let f (p/K) -> Int;let g Int"},
		{"opaque K = Text let f = (r/k as Any) let g = (f as K) let h = raw K(f) export (g, h)", "let g p/K;let h Text"},
		{"let f = q/any opaque K = q/P type A = K let g = new K(f) let h = raw K(f).x export (g, h, A)", "type A p/K;let g p/K;let h Int"},
	} {
		var items []api.Item
		if c[1] != "" {
			items = sample.Face(strings.Split(c[1], ";")...)
		}
		wantSource(t, importing(c[0]), packs(), items)
		wantModel(t, sample.Module(importing(c[0])), packs())
	}
}

// TestFaults: P15.1, P15.2, the first fault of a source that imports q and r; ^^ stands where it is.
func TestFaults(t *testing.T) {
	for err, l := range map[api.Errno][]string{
		api.ErrName: {
			"^^type A = B export ()", "^^type A = A export ()", "^^type A = [A] type B = Int export ()", "^^type A = {a: Int, b: [B]} type B = Int export ()", "type B = Int ^^type A = (B) -> C export ()",
			"^^opaque K = B export ()", "^^opaque K = K export ()", "^^opaque K = {k: <none: {} | some: K>} export ()", "type A = Int ^^opaque K = [B] type B = Int export ()", "opaque K = Int ^^opaque L = {k: K, l: L} export ()",
			"^^type A = q/Z export ()", "^^type A = q/K export ()", "^^type A = z/P export ()", "^^type A = p/B export ()", "type B = Int ^^type A = p/B export ()", "opaque K = Int ^^type A = p/K export ()", "^^type A = P export ()", "^^opaque A = Key export ()", "^^opaque A = r/Key export ()", "type P = Int ^^type A = r/Opt export ()",
			"let f = ^^g let g = 1 export ()", "let f = ^^f export ()", "let f = fun (x: Int) -> ^^f(x) export ()", "let g = 1 let f = add(g, ^^h) export ()", "let f = ^^g(zero) export ()", "let f = q/g(^^zero) export ()", "let f = ^^r/g(1) export ()", "let f = ^^q/f export ()",
			"let f = 1 let g = ^^p/f export ()", "let f = ^^q/add(1, 2) export ()", "let f = ^^p/add(1, 2) export ()", "let f = ^^z/f export ()", "let f = let x = 1 in x let g = ^^x export ()", "let f = fun (x: Int) -> x let g = ^^x export ()", "let f = {a = 1} let g = ^^a export ()",
			"let f = ^^fun (x: A) -> x type A = Int export ()", "type A = Int let f = ^^[1] of B export ()", "let f = ^^(1 as q/Z) export ()", "opaque K = Int let f = ^^(1 as p/K) export ()", "let f = {a = 1, b = ^^(q/any as Key)} export ()",
			"let f = ^^new K(1) opaque K = Int export ()", "let f = ^^raw Key(q/key(1)) export ()", "let f = ^^new Key(1) export ()", "type K = Int let f = ^^new K(1) export ()", "type Key = q/Key let f = ^^raw Key(q/key(1)) export ()", "opaque K = Int let f = new K(1) let g = ^^raw L(f) export ()", "let f = ^^new K(r/f) export ()",
			// The first one of several.
			"^^type A = B type C = D export (Z)", "let f = ^^x type A = B export (Z)", "^^type A = B let f = x export ()", "^^opaque A = B let f = true(1) export ()", "let f = {a = 1, b = ^^y, c = true(1)} type A = B export ()", "^^type A = {a: B, b: q/Z, c: C} export (Z)",
		},
		api.ErrType: {
			"let f = add(1, ^^true) export ()", "let f = 1 let g = ^^f(1) export ()", "let f = q/g(^^q/zero) export ()", "let f = q/num(^^1) export ()", "let f = q/num(^^r/k) export ()", "let f = r/key(^^r/k) export ()", "let f = ^^q/zero.z export ()", "let add = 1 let f = ^^add(1, 2) export ()", "let f = ^^q/key(1).x export ()",
			"opaque K = Int let f = new K(^^true) export ()", "opaque K = Int let f = add(^^new K(1), 2) export ()", "opaque K = Int let f = raw K(^^1) export ()", "opaque Key = Int let f = q/num(^^new Key(1)) export ()", "opaque Key = Int let f = raw Key(^^q/key(1)) export ()", "opaque K = Text let f = raw K(^^r/k) export ()", "opaque K = Int opaque L = Int let f = raw K(^^new L(1)) export ()",
			"type A = {a: Int} let f = fun (x: A) -> x let g = f(^^{}) export ()", "let f = [^^1] of q/Key export ()", "let f = {a = 1} let g = (^^f as {b: Int}) export ()", "let f = fun (o: q/Opt) -> case ^^o of {some(x: Int) -> x} as Int export ()",
			"let f = ^^true(1) let g = x type A = B export (Z)", "let f = add(1, ^^true) export (g)",
		},
		api.ErrExport: {
			"^^export (f)", "^^export (A)", "let f = 1 ^^export (g)", "let f = 1 ^^export (f, g)", "let f = 1 ^^export (g, f)", "let f = 1 ^^export (F)", "type F = Int ^^export (f)", "type A = Int ^^export (Int, A)", "^^export (Any)", "^^export (add)", "^^export (g)", "^^export (P)", "^^export (Key)", "^^export (q)", "^^export (p)", "let f = let x = 1 in x ^^export (x)", "let f = fun (x: Int) -> x ^^export (f, x)", "let f = {a = 1} ^^export (a)", "opaque K = Int ^^export (K, k)", "let f = 1 let ff = 2 ^^export (ff, fff, f)",
		},
	} {
		for _, text := range l {
			wantFault(t, importing(text), packs(), err)
		}
	}
}

// TestImports: P15.1, each import has an interface, which is asked ahead of all declarations.
func TestImports(t *testing.T) {
	one := func(names ...string) []api.Dep {
		var deps []api.Dep
		for _, name := range names {
			deps = append(deps, api.Dep{Name: name, Items: sample.Face("let f Int")})
		}
		return deps
	}
	text := "module p import q pin 1.0.0 range * import r pin 1.0.0 range * import s pin 1.0.0 range * let f = x export (Z)"
	for _, c := range []struct {
		deps    []api.Dep
		missing string
	}{{nil, "q"}, {one("r", "s"), "q"}, {one("s"), "q"}, {one("q"), "r"}, {one("s", "q"), "r"}, {one("p", "q", "r"), "s"}, {one("r", "qq", "Q", "", "q ", "q/f", "r", "s"), "q"}, {one("\xff", "x", "q", "s"), "r"}} {
		wantFault(t, strings.Replace(text, "import "+c.missing, "^^import "+c.missing, 1), c.deps, api.ErrUnknown)
	}
	wantFault(t, strings.Replace(text, "= x", "= ^^x", 1), one("s", "r", "q"), api.ErrName)
	// An interface without an item is one.
	for _, items := range [][]api.Item{nil, {}} {
		wantSource(t, "module p import q pin 1.0.0 range * let f = 1 export (f)", []api.Dep{{Name: "q", Items: items}}, sample.Face("let f Int"))
		wantFault(t, "module p import q pin 1.0.0 range * let f = ^^q/f export (f)", []api.Dep{{Name: "q", Items: items}}, api.ErrName)
	}
	// Of a package that is not imported nothing is known, nor of the module itself.
	wantFault(t, "module p let f = ^^q/f export (f)", one("q"), api.ErrName)
	wantFault(t, "module p let f = ^^p/f export (f)", one("p"), api.ErrName)
	wantFault(t, "module p ^^type A = q/P export ()", packs(), api.ErrName)
	wantFault(t, "module p import r pin 2.1.0 range * let f = r/key(^^1) export ()", packs(), api.ErrType)
	wantSource(t, "module p import r pin 2.1.0 range * let f = r/key export (f)", packs(), sample.Face("let f (q/Key) -> r/K"))
}

// TestLast: P15.1, of several interfaces with one name the last one is the package's, of several items with one name the last one counts.
func TestLast(t *testing.T) {
	text := importing("type A = q/P let f = q/g export (f, A)")
	face := func(p, g string) []api.Item { return sample.Face("type P "+p, "let g "+g) }
	empty := []api.Dep{{Name: "q"}, {Name: "r"}}
	first, last := api.Dep{Name: "q", Items: face("Int", "Int")}, api.Dep{Name: "q", Items: face("Text", "Bool")}
	for _, deps := range [][]api.Dep{append(packs(), first, last), {first, last, empty[1]}, append(empty, first, last), {first, first, last, empty[1]}, {last, empty[1], first, last}, {first, empty[1], empty[0], last}, {{Name: "q", Items: append(face("Int", "Int"), face("Text", "Bool")...)}, empty[1]}, {{Name: "q", Items: sample.Face("let g Int", "type P Any", "let g Bool", "type P Text")}, empty[1]}} {
		wantSource(t, text, deps, sample.Face("type A Text", "let f Bool"))
	}
	wantFault(t, strings.Replace(text, "type", "^^type", 1), []api.Dep{first, last, empty[1], empty[0]}, api.ErrName)
	wantFault(t, strings.Replace(text, "q/g", "^^q/g", 1), []api.Dep{last, {Name: "q", Items: sample.Face("type P Int")}, empty[1]}, api.ErrName)
	// The last import's interface does not stand for the first one's.
	wantSource(t, importing("let f = {a = q/x, b = r/x} export (f)"), []api.Dep{{Name: "r", Items: sample.Face("let x Int")}, {Name: "q", Items: sample.Face("let x Text")}}, sample.Face("let f {a: Text, b: Int}"))
}

// TestOddItems: P15.1, what items of an interface say by their kinds, whatever else stands in them.
func TestOddItems(t *testing.T) {
	number := sample.Int()
	items := []api.Item{{Kind: api.DeOpaque, Name: "K", Shape: sample.Type("{a: Int}")}, {Kind: api.DeLet, Name: "K", Shape: number}, {Kind: api.DeType, Name: "f", Shape: number}, {Kind: api.DeOpaque, Name: "g"}, {Kind: api.DeLet, Name: "v", Shape: sample.Type("Text")}}
	for _, kind := range []int{0, 4, -1, math.MaxInt, math.MinInt, 1<<32 + api.DeLet, 1<<32 + api.DeType} {
		items = append(items, api.Item{Kind: kind, Name: "K", Shape: number}, api.Item{Kind: kind, Name: "v", Shape: number}, api.Item{Kind: kind, Name: "w", Shape: number})
	}
	deps := []api.Dep{{Name: "q", Items: items}, {Name: "r"}}
	wantSource(t, importing("type A = q/K let f = fun (k: q/K) -> k let v = q/v export (A, f, v)"), deps, sample.Face("type A q/K", "let f (q/K) -> q/K", "let v Text"))
	wantFault(t, importing("let f = fun (k: q/K) -> ^^k.a export (f)"), deps, api.ErrType)
	for _, text := range []string{"let f = ^^q/f export ()", "let f = ^^q/g export ()", "let f = ^^q/w export ()"} {
		wantFault(t, importing(text), deps, api.ErrName)
	}
	wantFault(t, importing("^^type A = q/V export ()"), deps, api.ErrName)
}

// TestModule: P15.1, of a module that may not be ErrModule at 0, ahead of all others.
func TestModule(t *testing.T) {
	whole := func() api.Module {
		return sample.PlacedModule(sample.Module(importing("type A = Int opaque K = [A] let f = 1 export (f, A)")), 7)
	}
	want(t, whole(), packs(), sample.Face("type A Int", "let f Int"), api.Fault{})
	for i, change := range []func(*api.Module){
		func(m *api.Module) { m.Name = "" },
		func(m *api.Module) { m.Name = "P" },
		func(m *api.Module) { m.Name = "let" },
		func(m *api.Module) { m.Name = "q" },
		func(m *api.Module) { m.At = -1 },
		func(m *api.Module) { m.Imports[0].Name = "r" },
		func(m *api.Module) { m.Imports[0].At = -1 },
		func(m *api.Module) { m.Imports[0].Name = "Q" },
		func(m *api.Module) { m.Imports[0].Pin.Major = -1 },
		func(m *api.Module) { m.Imports[0].Range = []api.Bound{{Op: api.Above, V: m.Imports[0].Pin}} },
		func(m *api.Module) { m.Imports = make([]api.Import, 9) },
		func(m *api.Module) { m.Decls[0].Kind = 0 },
		func(m *api.Module) { m.Decls[0].Kind = api.DeLet },
		func(m *api.Module) { m.Decls[0].Name = "K" },
		func(m *api.Module) { m.Decls[0].Name = "Int" },
		func(m *api.Module) { m.Decls[0].Name = "a" },
		func(m *api.Module) { m.Decls[0].At = math.MinInt },
		func(m *api.Module) { m.Decls[0].Shape = api.Shape{} },
		func(m *api.Module) { m.Decls[0].Shape = sample.Type("own/K") },
		func(m *api.Module) { m.Decls[0].Term = m.Decls[2].Term },
		func(m *api.Module) { m.Decls[1].Kind = 4 },
		func(m *api.Module) { m.Decls[2].Name = "F" },
		func(m *api.Module) { m.Decls[2].Term = api.Term{} },
		func(m *api.Module) { m.Decls[2].Term.N = -1 },
		func(m *api.Module) { m.Decls[2].Term.At = -1 },
		func(m *api.Module) { m.Decls[2].Shape = sample.Int() },
		func(m *api.Module) { m.Exports[0] = "A" },
		func(m *api.Module) { m.Exports[0] = "" },
		func(m *api.Module) { m.Exports[0] = "q/f" },
		func(m *api.Module) { m.Exports = sample.Numbered(api.ShRecord, 100, 61, sample.Int()).Names },
		func(m *api.Module) { m.Decls[0].Shape = sample.Endless()[0] },
		func(m *api.Module) { m.Decls[1].Shape = sample.Endless()[1] },
		func(m *api.Module) {
			m.Decls[2].Term = api.Term{Kind: api.TmRecord, Names: []string{"a"}, Parts: make([]api.Term, 1)}
			m.Decls[2].Term.Parts[0] = m.Decls[2].Term
		},
	} {
		for _, deps := range [][]api.Dep{packs(), nil} {
			m := whole()
			change(&m)
			if module.Check(m) == api.OK {
				t.Error(i, "may be")
			}
			want(t, m, deps, nil, api.Fault{Err: api.ErrModule})
			// Nor may it with other faults in it.
			m.Decls = append(m.Decls, api.Decl{Kind: api.DeType, Name: "Last", Shape: sample.Type("Z"), At: 3})
			m.Exports = append(m.Exports, "unknown")
			want(t, m, deps, nil, api.Fault{Err: api.ErrModule})
		}
	}
	for _, s := range sample.Wrong() {
		m := whole()
		m.Decls[0].Shape = s
		want(t, m, packs(), nil, api.Fault{Err: api.ErrModule})
	}
	want(t, api.Module{}, packs(), nil, api.Fault{Err: api.ErrModule})
	want(t, api.Module{Name: "p"}, nil, nil, api.Fault{})
}

// TestSource: P15.2, Parse's fault goes ahead of all of Module's.
func TestSource(t *testing.T) {
	for text, err := range map[string]api.Errno{
		"^^": api.ErrSyntax, "module p ^^": api.ErrSyntax, "module p import z pin 1.0.0 range * type A = B let f = x export (Z) ^^,": api.ErrSyntax, "module p import z pin 1.0.0 range * import ^^z pin 1.0.0 range * export ()": api.ErrTwice,
		"module p let f = x let ^^f = 1 export ()": api.ErrTwice, "module p export (f, ^^f)": api.ErrTwice, "module p import z pin ^^1.0.0 range >1.0.0 export ()": api.ErrRange, "module p export (f) ^^#": api.ErrToken, "module p export (f) \"^^\xff\"": api.ErrUTF,
		"module p type A = B let f = {a = 1, ^^a = 2} export ()": api.ErrTwice, "module p type A = {a: B, ^^a: B} export ()": api.ErrTwice, "module ^^P export (f)": api.ErrSyntax,
	} {
		wantFault(t, text, packs(), err)
	}
	// A source is as great as a text may be, and not greater.
	text := "module p let f = x export ()"
	for n, fault := range map[int]api.Fault{api.MaxText: {Err: api.ErrName, At: 17}, api.MaxText + 1: {Err: api.ErrBig}} {
		if m, items, first := check.Source(text + strings.Repeat(" ", n-len(text))); first.Err != fault.Err || items != nil || !reflect.DeepEqual(m, api.Module{}) {
			t.Error(n, m, items, first)
		}
	}
	text = strings.Replace(text, "x", "1", 1)
	wantSource(t, text+strings.Repeat("\n", api.MaxText-len(text)), nil, nil)
}

// TestWrongTypes: P15.1, whatever the types of an interface: those that may not be are faults where they are spoken of.
func TestWrongTypes(t *testing.T) {
	for _, s := range append(sample.Wrong(), sample.Endless()...) {
		err := shape.Check(s)
		deps := []api.Dep{{Name: "q", Items: []api.Item{{Kind: api.DeLet, Name: "x", Shape: s}, {Kind: api.DeType, Name: "X", Shape: s}, {Kind: api.DeOpaque, Name: "K", Shape: s}, {Kind: api.DeLet, Name: "f", Shape: sample.Int()}}}, {Name: "r"}}
		for _, text := range []string{"let f = ^^q/x export (f)", "let f = q/f let g = {a = f, b = ^^q/x} export ()", "^^type A = q/X export ()", "^^type A = {a: Int, b: [q/X]} export ()", "type A = Int ^^opaque K = q/X export (K)", "^^opaque K = q/X let f = new K(1) export (K)", "let f = ^^[] of q/X export ()", "let f = {a = ^^fun (x: q/X) -> x} export ()"} {
			wantFault(t, importing(text), deps, err)
		}
		wantSource(t, importing("type K = q/K let f = q/f export (K, f)"), deps, sample.Face("type K q/K", "let f Int"))
		wantSource(t, importing("let f = fun (q: Int) -> let x = q/f in {q = q, x = x} export (f)"), deps, sample.Face("let f (Int) -> {q: Int, x: Int}"))
	}
}

// TestOpenTypes: P15.1, names that stand in an interface's types stay as they are, whatever the module declares.
func TestOpenTypes(t *testing.T) {
	deps := []api.Dep{{Name: "q", Items: sample.Face("type X [Z]", "let x {b: Z, a: Int}")}, {Name: "r"}}
	wantSource(t, importing("type Z = Int type A = q/X let x = q/x let f = [] of Z let g = [q/x] of Any export (A, x, f, g)"), deps, sample.Face("type A [Z]", "let f [Int]", "let g [Any]", "let x {a: Int, b: Z}"))
	wantSource(t, importing("type Z = Int opaque K = q/X let f = fun (k: K) -> raw K(k) export (K, f)"), deps, sample.Face("opaque K", "let f (p/K) -> [Z]"))
	wantFault(t, importing("type Z = Int let x = add(1, ^^q/x.b) export ()"), deps, api.ErrType)
}

// byHand is a module of declarations, with places, all of which it exports but those of small letters.
func byHand(decls ...api.Decl) api.Module {
	m := api.Module{Name: "p", Decls: decls}
	for _, d := range decls {
		if d.Kind != api.DeLet {
			m.Exports = append(m.Exports, d.Name)
		}
	}
	return sample.PlacedModule(m, 7)
}

// TestLimits: P15.1, types as great as may be, and greater by a part or a level.
func TestLimits(t *testing.T) {
	name, number := api.Shape{Kind: api.ShName, Name: "A"}, sample.Int()
	for _, c := range []struct {
		less, most api.Shape
		err        api.Errno
	}{
		{sample.Numbered(api.ShRecord, 1000, 398, number), sample.Numbered(api.ShRecord, 1000, 399, number), api.ErrBig},
		{sample.Within(number, 38), sample.Within(number, 39), api.ErrDeep},
	} {
		for kind := api.DeType; kind <= api.DeOpaque; kind++ {
			for _, of := range []string{"", "q"} {
				name.Of = of
				for s, fault := range map[*api.Shape]api.Fault{&c.less: {}, &c.most: {Err: c.err, At: 10}} {
					a, b := api.Decl{Kind: api.DeType, Name: "A", Shape: *s}, api.Decl{Kind: kind, Name: "B", Shape: sample.List(name)}
					m, deps := byHand(a, b), []api.Dep{{Name: "q", Items: []api.Item{{Kind: api.DeType, Name: "A", Shape: *s}}}}
					m.Imports = []api.Import{{Name: "q", At: 10}}
					m = sample.PlacedModule(m, 7)
					if _, got := wantModel(t, m, deps); got != fault {
						t.Error(kind, of, got, fault)
					}
					m.Decls[1].Shape = name
					if items, got := wantModel(t, m, deps); got != (api.Fault{}) || len(items) != 2 || sample.Key(items[0].Shape) != sample.Key(*s) {
						t.Error(kind, of, items, got)
					}
				}
			}
		}
	}
	// Each type has twice the parts of the one ahead, and one more.
	var doubled []api.Decl
	for i := range 9 {
		part := number
		if i > 0 {
			part = api.Shape{Kind: api.ShName, Name: "A" + strconv.Itoa(i-1)}
		}
		doubled = append(doubled, api.Decl{Kind: api.DeType, Name: "A" + strconv.Itoa(i), Shape: sample.Record([]string{"x", "y"}, part, part)})
	}
	want(t, byHand(doubled...), nil, nil, api.Fault{Err: api.ErrBig, At: 15})
	if items, fault := wantModel(t, byHand(doubled[:7]...), nil); fault != (api.Fault{}) || shape.Size(items[6].Shape) != 255 {
		t.Error(items, fault)
	}
}

// TestCounts: P15.1, as many imports and exports as a module may have, and many declarations.
func TestCounts(t *testing.T) {
	m, decls := api.Module{Name: "p"}, []api.Decl{}
	var deps []api.Dep
	var items []api.Item
	for i := range api.MaxImports {
		name := "q" + strconv.Itoa(i)
		m.Imports = append(m.Imports, api.Import{Name: name, At: 100 + i})
		deps = append(deps, api.Dep{Name: name, Items: sample.Face("let x Int")})
	}
	for i := range 600 {
		d := api.Decl{Kind: api.DeLet, Name: "x" + strconv.Itoa(1000+i), Term: api.Term{Kind: api.TmVar, Of: "q" + strconv.Itoa(i%8), Name: "x", At: i}}
		if i > 500 {
			d.Term.Of, d.Term.Name = "", "x"+strconv.Itoa(1600-i)
		}
		decls = append(decls, d)
		if i >= 540 {
			m.Exports, items = append(m.Exports, d.Name), append(items, api.Item{Kind: api.DeLet, Name: d.Name, Shape: sample.Int()})
		}
	}
	m.Decls = decls
	slices.Reverse(m.Exports)
	want(t, m, deps, items, api.Fault{})
	want(t, m, deps[:7], nil, api.Fault{Err: api.ErrUnknown, At: 107})
	m.Decls[599].Term.Name = "unknown"
	want(t, m, deps, nil, api.Fault{Err: api.ErrName, At: 599})
}
