package check_test

import (
	"math/rand"
	"reflect"
	"slices"
	"strconv"
	"testing"

	"pandect/api"
	"pandect/check"
	"pandect/fresh"
	"pandect/module"
	"pandect/sample"
	"pandect/shape"
	"pandect/subtype"
)

// world is a maker of modules and the packages that they speak of.
type world struct {
	sample.Maker
	deps []api.Dep
}

// worldOf makes packages q, r, which speaks of q, and s, which speaks of both.
func worldOf(t *testing.T, pick sample.Pick) world {
	t.Helper()
	w := world{Maker: sample.Maker{Pick: pick}}
	for _, name := range []string{"q", "r", "s"} {
		m := w.Module(name, w.deps...)
		items, fault := wantModel(t, m, w.deps)
		if fault != (api.Fault{}) {
			t.Fatal(m, fault)
		}
		w.deps = append(w.deps, api.Dep{Name: name, Items: items})
	}
	return w
}

// mixed is a list, copied, in any order.
func mixed[E any](pick sample.Pick, l []E) []E {
	l = slices.Clone(l)
	for i := range l {
		j := i + pick(len(l)-i)
		l[i], l[j] = l[j], l[i]
	}
	return l
}

// spoilt is a module in which something is changed that lets it be one that may be: its declarations, their names, what it exports and imports.
func spoilt(pick sample.Pick, m api.Module) api.Module {
	m = fresh.Module(m)
	n := len(m.Decls)
	switch pick(7) {
	case 0:
		m.Decls = mixed(pick, m.Decls)
	case 1:
		if n > 0 {
			m.Decls = slices.Delete(m.Decls, 0, 1)
		}
	case 2:
		if n > 0 {
			m.Decls = slices.Delete(m.Decls, n-1, n)
		}
	case 3:
		if n > 0 && m.Decls[n/2].Kind == api.DeLet {
			m.Decls[n/2].Name = "another"
		}
	case 4:
		if n > 0 && m.Decls[n/2].Kind != api.DeLet {
			m.Decls[n/2].Kind = api.DeType + api.DeOpaque - m.Decls[n/2].Kind
		}
	case 5:
		m.Exports = slices.Insert(m.Exports, pick(len(m.Exports)+1), "unknown")
	case 6:
		m.Imports[pick(len(m.Imports))].Name = "z"
	}
	return m
}

// TestMany: P15.1, P15.2, P15.4 and P15.5 of many modules, right ones and such as have faults, against the model.
func TestMany(t *testing.T) {
	pick := sample.Pick(rand.New(rand.NewSource(15)).Intn)
	count := map[api.Errno]int{}
	exported := map[int]int{}
	for range 1000 {
		w := worldOf(t, pick)
		w.Slip = []int{0, 0, 12, 6}[pick(4)]
		m := w.Module("p", w.deps...)
		if pick(2) == 0 {
			m = spoilt(pick, m)
		}
		m = sample.PlacedModule(m, 7)
		items, fault := wantModel(t, m, w.deps)
		wantOrder(t, w, m, items, fault)
		wantMore(t, w, m, items, fault)
		wantText(t, w, m)
		count[fault.Err]++
		for _, item := range items {
			exported[item.Kind]++
		}
	}
	for err, least := range map[api.Errno]int{api.OK: 400, api.ErrType: 90, api.ErrName: 150, api.ErrExport: 60, api.ErrUnknown: 50} {
		if count[err] < least {
			t.Error("too few", err, count)
		}
	}
	if count[api.ErrModule] > 0 || exported[api.DeType] < 200 || exported[api.DeOpaque] < 200 || exported[api.DeLet] < 250 {
		t.Error(count, exported)
	}
}

// wantText asks, by P15.2, for the same of a module's text as of the module that is read out of it.
func wantText(t *testing.T, w world, m api.Module) {
	t.Helper()
	text, err := module.Show(m)
	if err != api.OK {
		return
	}
	read, fault := module.Parse(text)
	if fault != (api.Fault{}) {
		t.Fatal(text, fault)
	}
	items, first := check.Module(read, w.deps...)
	if first.Err != api.OK {
		read = api.Module{}
	}
	got, face, told := check.Source(text, w.deps...)
	if told != first || key(face) != key(items) || !reflect.DeepEqual(got, read) {
		t.Errorf("%s: %v, %v, %v, not %v, %v", text, got, face, told, items, first)
	}
}

// wantOrder asks for P15.4 of a module that has that interface or that fault.
func wantOrder(t *testing.T, w world, m api.Module, items []api.Item, fault api.Fault) {
	t.Helper()
	for i, item := range items {
		if i > 0 && items[i-1].Name >= item.Name {
			t.Errorf("%s is behind %s", item.Name, items[i-1].Name)
		}
		if item.Kind != api.DeOpaque && (!shape.Closed(item.Shape) || sample.Key(shape.Sort(item.Shape)) != sample.Key(item.Shape)) {
			t.Errorf("%s is %v", item.Name, item.Shape)
		}
	}
	m.Imports, m.Exports = mixed(w.Pick, m.Imports), mixed(w.Pick, m.Exports)
	other := api.Dep{Name: "other", Items: sample.Face("type A Int", "let add Int", "opaque K")}
	self := api.Dep{Name: "p", Items: sample.Face("type A Int", "let add Int", "opaque K")}
	first := api.Dep{Name: "r", Items: sample.Face("type A Int", "let add Int", "opaque K")}
	want(t, m, append([]api.Dep{first}, mixed(w.Pick, append([]api.Dep{other, self}, w.deps...))...), items, fault)
}

// wantMore asks for P15.5 of a module that has that interface or that fault: an item more, of a name that is not there and that the module does not speak of, changes nothing.
func wantMore(t *testing.T, w world, m api.Module, items []api.Item, fault api.Fault) {
	t.Helper()
	more := slices.Clone(w.deps)
	for i, dep := range more {
		item := []api.Item{{Kind: api.DeLet, Name: "unspoken", Shape: w.Type(2)}, {Kind: api.DeType, Name: "Unspoken", Shape: w.Type(2)}, {Kind: api.DeOpaque, Name: "Unspoken"}, {Kind: api.DeLet, Name: "unspoken", Shape: sample.Endless()[0]}}[w.Pick(4)]
		more[i].Items = slices.Insert(slices.Clone(dep.Items), w.Pick(len(dep.Items)+1), item)
	}
	want(t, m, more, items, fault)
}

// TestWeaker: P15.3, with interfaces in which values' types are below those that they were a module that had an interface has one whose values' types are below.
func TestWeaker(t *testing.T) {
	pick := sample.Pick(rand.New(rand.NewSource(3)).Intn)
	lower := 0
	for range 800 {
		w := worldOf(t, pick)
		m := w.Module("p", w.deps...)
		// What is exported hangs on the packages' values more often than by chance.
		for i, dep := range w.deps {
			for _, item := range dep.Items {
				if name := "v" + strconv.Itoa(i) + item.Name; item.Kind == api.DeLet && pick(2) == 0 {
					m.Decls = append(m.Decls, api.Decl{Kind: api.DeLet, Name: name, Term: api.Term{Kind: api.TmVar, Of: dep.Name, Name: item.Name}})
					m.Exports = append(m.Exports, name)
				}
			}
		}
		items, fault := wantModel(t, m, w.deps)
		if fault != (api.Fault{}) {
			t.Fatal(m, fault)
		}
		for i, dep := range w.deps {
			w.deps[i].Items = slices.Clone(dep.Items)
			for j, item := range dep.Items {
				if item.Kind == api.DeLet {
					w.deps[i].Items[j].Shape = w.Lowered(item.Shape, false)
				}
			}
		}
		below, fault := wantModel(t, m, w.deps)
		if fault.Err == api.ErrBig || fault.Err == api.ErrDeep {
			continue
		}
		if fault != (api.Fault{}) || len(below) != len(items) {
			text, _ := module.Show(m)
			t.Fatalf("%s: %v, %v, not as %v", text, below, fault, items)
		}
		for i, item := range items {
			if !isBelow(below[i], item) {
				t.Errorf("%v is not as %v", below[i], item)
			}
			if sample.Key(below[i].Shape) != sample.Key(item.Shape) {
				lower++
			}
		}
	}
	if lower < 500 {
		t.Error("too few", lower)
	}
}

// isBelow tells whether an item is as another one, but for a value's type, which may be below that one's.
func isBelow(a, b api.Item) bool {
	if a.Kind != b.Kind || a.Name != b.Name {
		return false
	}
	return a.Kind == api.DeLet && subtype.Below(a.Shape, b.Shape) || sample.Key(a.Shape) == sample.Key(b.Shape)
}

// TestNew: rule 4, what is handed in is left as it is, and each list of what is handed out is new.
func TestNew(t *testing.T) {
	pick := sample.Pick(rand.New(rand.NewSource(4)).Intn)
	for range 150 {
		w := worldOf(t, pick)
		w.Slip = []int{0, 0, 20}[pick(3)]
		m := w.Module("p", w.deps...)
		m.Decls = append(m.Decls, sample.Module("module p type R = {a: Int} type S = R type T = S let v = {a = 1} let w = v let z = (w as T) export (R, S, T, v, w, z)").Decls...)
		m.Exports = append(m.Exports, "R", "S", "T", "v", "w", "z")
		m = sample.RoomyModule(m)
		wholeModule, memory := sample.OpenedModule(m), sample.MemoryOf()
		memory.AddModule(m)
		var whole [][]api.Item
		for i, dep := range w.deps {
			w.deps[i].Items = sample.RoomyItems(dep.Items)
			whole = append(whole, sample.OpenedItems(w.deps[i].Items))
			memory.AddItems(w.deps[i].Items)
		}
		items, fault := check.Module(m, w.deps...)
		kept := slices.Clone(items)
		for i, item := range items {
			if memory.Taken(item.Shape) {
				t.Fatalf("%v is not new", item)
			}
			kept[i].Shape = fresh.Shape(item.Shape)
		}
		for i := range items {
			sample.Scratch(items[i].Shape)
			items[i] = api.Item{}
		}
		want(t, m, w.deps, kept, fault)
		wantNewSource(t, m, w.deps, memory)
		if !reflect.DeepEqual(sample.OpenedModule(m), wholeModule) {
			t.Fatalf("%v was changed", wholeModule)
		}
		for i, dep := range w.deps {
			if !reflect.DeepEqual(sample.OpenedItems(dep.Items), whole[i]) {
				t.Fatalf("%v was changed", dep)
			}
		}
	}
}

// wantNewSource asks for new memory in what is told of a module's text, apart from other memory.
func wantNewSource(t *testing.T, m api.Module, deps []api.Dep, memory sample.Memory) {
	t.Helper()
	text, err := module.Show(m)
	if err != api.OK {
		return
	}
	read, items, _ := check.Source(text, deps...)
	memory.AddModule(read)
	for _, item := range items {
		if memory.Taken(item.Shape) {
			t.Fatalf("%v of %s is not new", item, text)
		}
	}
}

// TestEmpty: rule 3, a list without an element may be nil or empty.
func TestEmpty(t *testing.T) {
	empty := func(l []api.Shape) []api.Shape { return append([]api.Shape{}, l...) }
	s := api.Shape{Kind: api.ShRecord, Names: []string{}, Parts: []api.Shape{}}
	m := sample.Module("module p import q pin 1.0.0 range * type A = {} opaque K = {} let f = q/x let g = {} export (A, K, f, g)")
	for i, d := range m.Decls {
		m.Decls[i].Shape.Parts, m.Decls[i].Shape.Names = empty(d.Shape.Parts), []string{}
		m.Decls[i].Term.Shapes, m.Decls[i].Term.Names, m.Decls[i].Term.Vars, m.Decls[i].Term.Parts = []api.Shape{}, []string{}, []string{}, []api.Term{}
	}
	m.Imports[0].Range = []api.Bound{}
	want(t, m, []api.Dep{{Name: "q", Items: []api.Item{{Kind: api.DeLet, Name: "x", Shape: s}, {Kind: api.DeOpaque, Name: "K", Shape: s}}}}, sample.Face("type A {}", "opaque K", "let f {}", "let g {}"), api.Fault{})
	want(t, api.Module{Name: "p", Imports: []api.Import{}, Decls: []api.Decl{}, Exports: []string{}}, []api.Dep{}, nil, api.Fault{})
}
