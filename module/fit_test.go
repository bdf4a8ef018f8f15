package module_test

import (
	"math"
	"reflect"
	"slices"
	"strconv"
	"strings"
	"testing"

	"pandect/api"
	"pandect/module"
)

// right is a module that may be, with all that one may have.
func right() api.Module {
	record := api.Shape{Kind: api.ShRecord, Names: []string{"a"}, Parts: []api.Shape{{Kind: api.ShInt}}}
	x := api.Term{Kind: api.TmVar, Name: "x", At: 8}
	return api.Module{
		Name: "p",
		Imports: []api.Import{
			{Name: "q", Pin: api.Version{Major: 1}, Range: []api.Bound{{Op: api.Least, V: api.Version{Major: 1}}, {Op: api.Below, V: api.Version{Major: 2}}}, At: 3},
			{Name: "z", Pin: api.Version{Pre: "a"}, At: 4},
		},
		Decls: []api.Decl{
			{Kind: api.DeType, Name: "A", Shape: record, At: 5},
			{Kind: api.DeOpaque, Name: "Key", Shape: api.Shape{Kind: api.ShText}, At: 6},
			{Kind: api.DeLet, Name: "f", Term: api.Term{Kind: api.TmFun, Names: []string{"x"}, Shapes: []api.Shape{record}, Parts: []api.Term{{Kind: api.TmField, Name: "a", Parts: []api.Term{x}, At: 8}}, At: 9}, At: 7},
		},
		Exports: []string{"f", "A"},
		At:      2,
	}
}

// wantWrong asks Check, Bare and Show of a module that may not be.
func wantWrong(t *testing.T, what string, m api.Module) {
	t.Helper()
	if err := module.Check(m); err != api.ErrModule {
		t.Errorf("%s: Check = %d", what, int(err))
	}
	if text, err := module.Show(m); text != "" || err != api.ErrModule {
		t.Errorf("%s: Show = %q, error %d", what, text, int(err))
	}
	if bare := module.Bare(m); !same(bare, m) {
		t.Errorf("%s: Bare = %v", what, bare)
	}
}

// wantRight asks Check and Show of a module that may be, and whether it is read back.
func wantRight(t *testing.T, what string, m api.Module) {
	t.Helper()
	text, err := module.Show(m)
	if module.Check(m) != api.OK || err != api.OK {
		t.Errorf("%s: Check = %d, error %d of Show", what, int(module.Check(m)), int(err))
	}
	if back, f := module.Parse(text); f != (api.Fault{}) || !same(module.Bare(back), module.Bare(m)) {
		t.Errorf("%s: %q is read as %v, fault %d at %d", what, text, back, int(f.Err), f.At)
	}
}

// changed is the module that may be, with something changed.
func changed(change func(m *api.Module)) api.Module {
	m := right()
	change(&m)
	return m
}

// TestRight: P10.2, modules that may be, at the edges.
func TestRight(t *testing.T) {
	wantRight(t, "all", right())
	wantRight(t, "name only", api.Module{Name: "p"})
	wantRight(t, "empty lists", api.Module{Name: "p", Imports: []api.Import{}, Decls: []api.Decl{}, Exports: []string{}})
	wantRight(t, "longest name", api.Module{Name: longest, Exports: []string{longest, longestUpper}})
	for what, change := range map[string]func(m *api.Module){
		"greatest places":         func(m *api.Module) { m.At, m.Imports[0].At, m.Decls[0].At = math.MaxInt, math.MaxInt, math.MaxInt },
		"places in any order":     func(m *api.Module) { m.At, m.Imports[0].At, m.Decls[2].At, m.Decls[2].Term.At = 0, 9, 1, 0 },
		"exports not there":       func(m *api.Module) { m.Exports = []string{"Int", "Any", "q", "p", "x1", "X_"} },
		"a let named as a module": func(m *api.Module) { m.Decls[2].Name = "q" },
		"a let named as itself":   func(m *api.Module) { m.Decls[2].Name = "p" },
		"empty lists of a type":   func(m *api.Module) { m.Decls[2].Shape = api.Shape{Names: []string{}, Parts: []api.Shape{}} },
		"empty lists of an expression": func(m *api.Module) {
			m.Decls[0].Term = api.Term{Names: []string{}, Vars: []string{}, Shapes: []api.Shape{}, Parts: []api.Term{}}
		},
		"names not known": func(m *api.Module) { m.Decls[0].Shape = api.Shape{Kind: api.ShName, Of: "nowhere", Name: "A"} },
		"its own name":    func(m *api.Module) { m.Decls[0].Shape = api.Shape{Kind: api.ShName, Name: "A"} },
		"no type":         func(m *api.Module) { m.Decls[2].Term = api.Term{Kind: api.TmVar, Name: "nowhere"} },
		"8 imports":       func(m *api.Module) { m.Imports = someImports(8) },
		"60 exports":      func(m *api.Module) { m.Exports = someNames(60) },
		"20 bounds":       func(m *api.Module) { m.Imports[0].Range = someBounds(20) },
		"400 parts": func(m *api.Module) {
			m.Decls[1].Shape = api.Shape{Kind: api.ShFun, Parts: slices.Repeat([]api.Shape{{Kind: api.ShInt}}, 399)}
		},
		"40 levels": func(m *api.Module) { m.Decls[0].Shape, m.Decls[2].Term = deepShape(40), deepTerm(40) },
		"a pin at the edge": func(m *api.Module) {
			m.Imports[1].Pin = api.Version{Major: 999999, Minor: 999999, Patch: 999999, Pre: strings.Repeat("a", 24)}
		},
	} {
		wantRight(t, what, changed(change))
	}
	many := api.Module{Name: "p"}
	for i := range 5000 {
		many.Decls = append(many.Decls, api.Decl{Kind: api.DeLet, Name: "x" + strconv.Itoa(i), Term: api.Term{Kind: api.TmTrue}})
	}
	if err := module.Check(many); err != api.OK {
		t.Error(int(err))
	}
	many.Decls = append(many.Decls, many.Decls[0])
	wantWrong(t, "a name once more behind many", many)
}

// someImports are so many imports.
func someImports(n int) []api.Import {
	var l []api.Import
	for _, name := range someNames(n) {
		l = append(l, api.Import{Name: strings.ToLower(name)})
	}
	return l
}

// someNames are so many names and upper names.
func someNames(n int) []string {
	var l []string
	for i := range n {
		l = append(l, []string{"n", "N"}[i%2]+strconv.Itoa(i))
	}
	return l
}

// someBounds are so many bounds, all of which 1.0.0 meets.
func someBounds(n int) []api.Bound {
	return slices.Repeat([]api.Bound{{Op: api.Most, V: api.Version{Major: 1}}}, n)
}

// deepShape is a type of so many levels.
func deepShape(levels int) api.Shape {
	s := api.Shape{Kind: api.ShInt}
	for range levels - 1 {
		s = api.Shape{Kind: api.ShList, Parts: []api.Shape{s}}
	}
	return s
}

// deepTerm is an expression of so many levels.
func deepTerm(levels int) api.Term {
	u := api.Term{Kind: api.TmTrue}
	for range levels - 1 {
		u = api.Term{Kind: api.TmCase, Name: "a", Parts: []api.Term{u}}
	}
	return u
}

// noNames are texts that are no names of either kind.
func noNames() []string {
	return []string{"", " ", "1", "_a", "a-b", "a b", "q/a", "é", "a\xff", "in", "export", "true", longest + "z", longestUpper + "z", "*"}
}

// TestWrong: P10.2, P10.3, ErrModule of each module with one thing that may not be.
func TestWrong(t *testing.T) {
	wantWrong(t, "nothing", api.Module{})
	for what, change := range map[string]func(m *api.Module){
		"place of export": func(m *api.Module) { m.At = -1 }, "place of an import": func(m *api.Module) { m.Imports[1].At = -1 }, "place of a declaration": func(m *api.Module) { m.Decls[0].At = -1 }, "place of a let": func(m *api.Module) { m.Decls[2].At = math.MinInt }, "place of an expression": func(m *api.Module) { m.Decls[2].Term.At = -1 }, "place of a part": func(m *api.Module) { m.Decls[2].Term.Parts[0].Parts[0].At = -1 },
		"upper name": func(m *api.Module) { m.Name = "P" },
		"9 imports":  func(m *api.Module) { m.Imports = someImports(9) }, "61 exports": func(m *api.Module) { m.Exports = someNames(61) }, "21 bounds": func(m *api.Module) { m.Imports[0].Range = someBounds(21) },
		"its own import": func(m *api.Module) { m.Imports[1].Name = "p" }, "an import twice": func(m *api.Module) { m.Imports[1].Name = "q" }, "an upper import": func(m *api.Module) { m.Imports[0].Name = "Q" },
		"a pin": func(m *api.Module) { m.Imports[1].Pin.Minor = -1 }, "a great pin": func(m *api.Module) { m.Imports[1].Pin.Major = 1000000 }, "a pin's Pre": func(m *api.Module) { m.Imports[1].Pin.Pre = "01" },
		"an Op": func(m *api.Module) { m.Imports[0].Range[1].Op = 0 }, "a great Op": func(m *api.Module) { m.Imports[0].Range[1].Op = 6 }, "a bound's version": func(m *api.Module) { m.Imports[0].Range[0].V.Pre = "a..b" },
		"not met below": func(m *api.Module) { m.Imports[0].Pin = api.Version{Minor: 9} }, "not met above": func(m *api.Module) { m.Imports[0].Pin = api.Version{Major: 2} }, "not met at all": func(m *api.Module) { m.Imports[1].Range = []api.Bound{{Op: api.Below, V: api.Version{Pre: "0"}}} }, "not met by its Pre": func(m *api.Module) { m.Imports[0].Pin.Pre = "rc" },
		"no kind": func(m *api.Module) { m.Decls[0].Kind = 0 }, "a fourth kind": func(m *api.Module) { m.Decls[0].Kind = 4 }, "a kind below 0": func(m *api.Module) { m.Decls[2].Kind = -3 }, "a great kind": func(m *api.Module) { m.Decls[0].Kind = math.MaxInt },
		"a type made a let": func(m *api.Module) { m.Decls[0].Kind = api.DeLet }, "a let made a type": func(m *api.Module) { m.Decls[2].Kind = api.DeType }, "a let made opaque": func(m *api.Module) { m.Decls[2].Kind = api.DeOpaque },
		"a type's name": func(m *api.Module) { m.Decls[0].Name = "a" }, "an opaque one's name": func(m *api.Module) { m.Decls[1].Name = "key" }, "a let's name": func(m *api.Module) { m.Decls[2].Name = "F" },
		"a type twice": func(m *api.Module) { m.Decls[1].Name = "A" }, "a let twice": func(m *api.Module) { m.Decls = append(m.Decls, m.Decls[2]) }, "a type behind": func(m *api.Module) { m.Decls = append(m.Decls, m.Decls[0]) },
		"no type": func(m *api.Module) { m.Decls[0].Shape = api.Shape{} }, "no opaque type": func(m *api.Module) { m.Decls[1].Shape = api.Shape{} }, "no expression": func(m *api.Module) { m.Decls[2].Term = api.Term{} },
		"a type that may not be": func(m *api.Module) { m.Decls[0].Shape.Names[0] = "A" }, "an expression that may not be": func(m *api.Module) { m.Decls[2].Term.N = 1 },
		"an opaque type":          func(m *api.Module) { m.Decls[0].Shape = api.Shape{Kind: api.ShOpaque, Of: "q", Name: "K"} },
		"an opaque type of one":   func(m *api.Module) { m.Decls[1].Shape = api.Shape{Kind: api.ShOpaque, Of: "p", Name: "Key"} },
		"an opaque part":          func(m *api.Module) { m.Decls[0].Shape.Parts[0] = api.Shape{Kind: api.ShOpaque, Of: "q", Name: "K"} },
		"an opaque part of a let": func(m *api.Module) { m.Decls[2].Term.Shapes[0] = api.Shape{Kind: api.ShOpaque, Of: "q", Name: "K"} },
		"401 parts": func(m *api.Module) {
			m.Decls[1].Shape = api.Shape{Kind: api.ShFun, Parts: slices.Repeat([]api.Shape{{Kind: api.ShInt}}, 400)}
		},
		"41 levels": func(m *api.Module) { m.Decls[0].Shape = deepShape(41) }, "41 levels of a let": func(m *api.Module) { m.Decls[2].Term = deepTerm(41) },
		"an export twice": func(m *api.Module) { m.Exports = []string{"f", "A", "f"} },
	} {
		wantWrong(t, what, changed(change))
	}
	for _, name := range noNames() {
		wantWrong(t, "the name "+name, changed(func(m *api.Module) { m.Name = name }))
		wantWrong(t, "an import "+name, changed(func(m *api.Module) { m.Imports[0].Name = name }))
		wantWrong(t, "an export "+name, changed(func(m *api.Module) { m.Exports[1] = name }))
		for i := range 3 {
			wantWrong(t, "a declaration "+name, changed(func(m *api.Module) { m.Decls[i].Name = name }))
		}
	}
	for _, name := range []string{"Int", "Bool", "Text", "Any"} {
		for i := range 3 {
			wantWrong(t, "a declaration "+name, changed(func(m *api.Module) { m.Decls[i].Name = name }))
		}
	}
}

// TestBoth: P10.2, of its type and its expression the one that a declaration does not have is empty, in each field.
func TestBoth(t *testing.T) {
	for _, u := range []api.Term{{Kind: api.TmTrue}, {Kind: -1}, {Of: "q"}, {Name: "a"}, {N: 1}, {N: -1}, {At: 1}, {At: -1}, {Names: []string{""}}, {Vars: []string{""}}, {Shapes: []api.Shape{{}}}, {Parts: []api.Term{{}}}} {
		wantWrong(t, "an expression of a type", changed(func(m *api.Module) { m.Decls[0].Term = u }))
		wantWrong(t, "an expression of an opaque one", changed(func(m *api.Module) { m.Decls[1].Term = u }))
	}
	for _, s := range []api.Shape{{Kind: api.ShInt}, {Kind: -1}, {Of: "q"}, {Name: "A"}, {Names: []string{""}}, {Parts: []api.Shape{{}}}} {
		wantWrong(t, "a type of a let", changed(func(m *api.Module) { m.Decls[2].Shape = s }))
	}
}

// countPlaces counts the places of a module that are 0, and the others.
func countPlaces(v reflect.Value, zero, others *int) {
	switch v.Kind() {
	case reflect.Struct:
		if at := v.FieldByName("At"); at.IsValid() && at.Int() == 0 {
			*zero++
		} else if at.IsValid() {
			*others++
		}
		for i := range v.NumField() {
			countPlaces(v.Field(i), zero, others)
		}
	case reflect.Slice:
		for i := range v.Len() {
			countPlaces(v.Index(i), zero, others)
		}
	}
}

// TestBare: P10.2, a module that may be with every place 0, all else being the same.
func TestBare(t *testing.T) {
	want := right()
	want.At, want.Imports[0].At, want.Imports[1].At, want.Decls[0].At, want.Decls[1].At, want.Decls[2].At = 0, 0, 0, 0, 0, 0
	want.Decls[2].Term.At, want.Decls[2].Term.Parts[0].At, want.Decls[2].Term.Parts[0].Parts[0].At = 0, 0, 0
	if bare := module.Bare(right()); !same(bare, want) {
		t.Errorf("Bare = %v, want %v", bare, want)
	}
	for _, s := range samples() {
		m := read(t, s)
		bare := module.Bare(m)
		zero, others := 0, 0
		countPlaces(reflect.ValueOf(bare), &zero, &others)
		all, more := 0, 0
		countPlaces(reflect.ValueOf(m), &all, &more)
		if others != 0 || zero != all+more || !same(module.Bare(bare), bare) {
			t.Errorf("Bare of %v = %v", m, bare)
		}
	}
}

// TestEndless: P10.2, P10.3, rule 1, types and expressions whose lists stand in themselves.
func TestEndless(t *testing.T) {
	s := api.Shape{Kind: api.ShList, Parts: make([]api.Shape, 1)}
	s.Parts[0] = s
	u := api.Term{Kind: api.TmCall, Parts: make([]api.Term, 2), At: 4}
	u.Parts[0], u.Parts[1] = u, u
	for i, m := range []api.Module{changed(func(m *api.Module) { m.Decls[0].Shape = s }), changed(func(m *api.Module) { m.Decls[1].Shape = s }), changed(func(m *api.Module) { m.Decls[2].Term = u }), changed(func(m *api.Module) { m.Decls[2].Shape = s }), changed(func(m *api.Module) { m.Decls[0].Term = u })} {
		if err := module.Check(m); err != api.ErrModule {
			t.Error(i, int(err))
		}
		if text, err := module.Show(m); text != "" || err != api.ErrModule {
			t.Error(i, int(err))
		}
		bare := module.Bare(m)
		if bare.At != 2 || bare.Imports[1].At != 4 || len(bare.Decls) != 3 || bare.Decls[2].At != 7 || bare.Decls[2].Term.Kind != m.Decls[2].Term.Kind || bare.Decls[2].Term.At != m.Decls[2].Term.At {
			t.Error(i)
		}
	}
}

// TestShow: P10.3, the text of modules.
func TestShow(t *testing.T) {
	for want, m := range map[string]api.Module{
		"module p\nexport ()\n": {Name: "p", At: 77}, "module p\nexport (A)\n": {Name: "p", Exports: []string{"A"}}, "module p\nexport (b, A, c)\n": {Name: "p", Exports: []string{"b", "A", "c"}},
		"module p\nimport q pin 1.0.0 range >=1.0.0 <2.0.0\nimport z pin 0.0.0-a range *\ntype A = {a: Int}\nopaque Key = Text\nlet f = fun (x: {a: Int}) -> x.a\nexport (f, A)\n": right(),
		"module p\nlet b = 1\ntype A = A\nlet a = [] of q/A\nopaque B = () -> Any\nexport ()\n":                                                                                    read(t, "module p let b=(1)type A=A let a=[]of q/A opaque B=()->Any export()"),
		"module p\nimport q pin 1.2.3-rc.1 range <2.0.0 <=2.0.0 =1.2.3-rc.1 >=0.0.0-0 >0.0.0-0\nexport ()\n":                                                                       read(t, "module p import q pin 1.2.3-rc.1 range <2.0.0<=2.0.0 = 1.2.3-rc.1 >=0.0.0-0 >0.0.0-0 export ()"),
		"module p\nlet f = \"a\\n\\t\\\"\\\\é\"\nexport ()\n":                                                                                                                      {Name: "p", Decls: []api.Decl{{Kind: api.DeLet, Name: "f", Term: api.Term{Kind: api.TmText, Name: "a\n\t\"\\é"}}}},
		shownFull: read(t, full),
	} {
		if text, err := module.Show(m); text != want || err != api.OK {
			t.Errorf("Show(%v) = %q, error %d, want %q", m, text, int(err), want)
		}
		wantRight(t, want, m)
	}
}

// letText is a module with one text of so many bytes.
func letText(n int) api.Module {
	return api.Module{Name: "p", Decls: []api.Decl{{Kind: api.DeLet, Name: "f", Term: api.Term{Kind: api.TmText, Name: strings.Repeat("a", n)}}}}
}

// TestShowGreat: P10.3, ErrBig of a text of more than 4096 bytes, but ErrModule ahead of that.
func TestShowGreat(t *testing.T) {
	around := len("module p\nlet f = \"\"\nexport ()\n")
	for _, n := range []int{4095, 4096} {
		m := letText(n - around)
		if text, err := module.Show(m); len(text) != n || err != api.OK {
			t.Error(n, len(text), int(err))
		}
		wantRight(t, strconv.Itoa(n), m)
	}
	for _, n := range []int{4097, 4098, 5000, 100000} {
		m := letText(n - around)
		if text, err := module.Show(m); text != "" || err != api.ErrBig {
			t.Error(n, len(text), int(err))
		}
		if err := module.Check(m); err != api.OK || !same(module.Bare(m), m) {
			t.Error(n, int(err))
		}
		m.Exports = []string{"f", "f"}
		wantWrong(t, strconv.Itoa(n), m)
	}
	long := api.Module{Name: "p"}
	for i := range 300 {
		long.Decls = append(long.Decls, api.Decl{Kind: api.DeType, Name: "T" + strconv.Itoa(i), Shape: api.Shape{Kind: api.ShAny}})
	}
	if text, err := module.Show(long); text != "" || err != api.ErrBig {
		t.Error(len(text), int(err))
	}
	// A source of 4096 bytes whose text is greater, as it has blanks where the source had none.
	s := "module p let f=f(" + strings.Repeat("x,", 2000) + "x)export()"
	m := read(t, s)
	if text, err := module.Show(m); text != "" || err != api.ErrBig || module.Check(m) != api.OK {
		t.Error(len(text), int(err))
	}
}

// room hands out all places of all lists within a thing, with their spare room.
func room(v reflect.Value, take func(at uintptr)) {
	switch v.Kind() {
	case reflect.Struct:
		for i := range v.NumField() {
			room(v.Field(i), take)
		}
	case reflect.Slice:
		all := v.Slice(0, v.Cap())
		for i := range all.Len() {
			take(all.Index(i).UnsafeAddr())
		}
		for i := range v.Len() {
			room(v.Index(i), take)
		}
	}
}

// wantApart asks whether no list of a thing stands in it twice, nor in another thing.
func wantApart(t *testing.T, m, other api.Module) {
	t.Helper()
	taken := map[uintptr]bool{}
	room(reflect.ValueOf(other), func(at uintptr) { taken[at] = true })
	room(reflect.ValueOf(m), func(at uintptr) {
		if taken[at] {
			t.Fatalf("a list of %v is not its own", m)
		}
		taken[at] = true
	})
}

// spared gives each list within a thing spare room, in which something stands.
func spared(v reflect.Value) {
	switch v.Kind() {
	case reflect.Struct:
		for i := range v.NumField() {
			spared(v.Field(i))
		}
	case reflect.Slice:
		n := v.Len()
		longer := reflect.MakeSlice(v.Type(), n+2, n+2)
		reflect.Copy(longer, v)
		if n > 0 {
			longer.Index(n).Set(v.Index(0))
		}
		v.Set(longer.Slice(0, n))
		for i := range n {
			spared(v.Index(i))
		}
	}
}

// whole makes each list within a thing a copy, with its spare room as further elements.
func whole(v reflect.Value) {
	switch v.Kind() {
	case reflect.Struct:
		for i := range v.NumField() {
			whole(v.Field(i))
		}
	case reflect.Slice:
		all := reflect.MakeSlice(v.Type(), v.Cap(), v.Cap())
		reflect.Copy(all, v.Slice(0, v.Cap()))
		for i := range all.Len() {
			whole(all.Index(i))
		}
		v.Set(all)
	}
}

// TestNothingIsChanged: rule 4, what is handed in is neither changed nor kept, its spare room neither, and what is handed out is new memory, each list of it its own.
func TestNothingIsChanged(t *testing.T) {
	shared := []api.Shape{{Kind: api.ShInt}}
	bounds := []api.Bound{{Op: api.Most, V: api.Version{Major: 1}}}
	twice := changed(func(m *api.Module) {
		m.Decls[0].Shape = api.Shape{Kind: api.ShList, Parts: shared}
		m.Decls[1].Shape = api.Shape{Kind: api.ShList, Parts: shared}
		m.Imports[0].Range, m.Imports[1].Range = bounds, bounds
	})
	wrong := changed(func(m *api.Module) { m.Exports = []string{"f", "f"} })
	for _, m := range []api.Module{right(), twice, wrong, {}, read(t, full)} {
		spared(reflect.ValueOf(&m).Elem())
		before := m
		whole(reflect.ValueOf(&before).Elem())
		bare := module.Bare(m)
		module.Check(m)
		module.Show(m)
		after := m
		whole(reflect.ValueOf(&after).Elem())
		if !same(before, after) {
			t.Errorf("%v is changed to %v", before, after)
		}
		wantApart(t, bare, m)
	}
	wantApart(t, module.Bare(twice), twice)
	for _, s := range samples() {
		m := read(t, s)
		wantApart(t, m, read(t, s))
	}
}
