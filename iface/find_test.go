package iface_test

import (
	"math/rand"
	"reflect"
	"testing"

	"pandect/api"
	"pandect/check"
	"pandect/iface"
	"pandect/sample"
)

// odd are items of any kinds, also such as may not be.
func odd() []api.Item {
	return []api.Item{
		{Kind: api.DeLet, Name: "f", Shape: sample.Int()},
		{Kind: api.DeLet, Name: "f", Shape: sample.Type("Text")},
		{Kind: api.DeType, Name: "f", Shape: sample.Type("{b: K, a: [Int]}")},
		{Kind: 77, Name: "B", Shape: api.Shape{Kind: -1, Of: "q", Name: "\xff", Names: []string{"z", "b", "b"}, Parts: []api.Shape{{}, {Kind: 99, Names: []string{""}}}}},
		{Kind: api.DeOpaque, Name: "B"},
		{Kind: api.DeOpaque, Name: "A", Shape: sample.Int()},
		{Kind: -1, Name: "", Shape: sample.Type("{b: {}, a: {}}")},
		{},
		{Kind: api.DeLet, Name: "\xff\x00", Shape: sample.Type("K")},
	}
}

// TestFind: P16.3, the first item of a name, among any.
func TestFind(t *testing.T) {
	l := odd()
	for name, at := range map[string]int{"f": 0, "B": 3, "A": 5, "": 6, "\xff\x00": 8} {
		if item, ok := iface.Find(l, name); !ok || !reflect.DeepEqual(item, l[at]) {
			t.Errorf("Find %q: %v, %v", name, item, ok)
		}
		if item, ok := iface.Find(l[at+1:], name); ok != (at == 0 || at == 3 || at == 6) || !ok && !reflect.DeepEqual(item, api.Item{}) {
			t.Errorf("Find %q behind: %v, %v", name, item, ok)
		}
	}
	for _, name := range []string{"F", "b", "ff", "fB", " f", "f ", "nobody", "\xff", "\x00"} {
		if item, ok := iface.Find(l, name); ok || !reflect.DeepEqual(item, api.Item{}) {
			t.Errorf("Find %q: %v, %v", name, item, ok)
		}
	}
	for _, none := range [][]api.Item{nil, {}} {
		if item, ok := iface.Find(none, ""); ok || !reflect.DeepEqual(item, api.Item{}) {
			t.Errorf("Find among none: %v, %v", item, ok)
		}
	}
}

// TestFindMany: P16.3, each item of an interface, and of more than may be in one.
func TestFindMany(t *testing.T) {
	pick := sample.Pick(rand.New(rand.NewSource(3)).Intn)
	m := sample.Maker{Pick: pick, Env: sample.World(nil)}
	for range 300 {
		l := append(m.Face(), m.Face()...)
		first := map[string]api.Item{}
		for _, item := range l {
			if _, ok := first[item.Name]; !ok {
				first[item.Name] = item
			}
		}
		for _, name := range []string{"A", "B", "Box", "K", "Pair", "a", "aB", "a_", "b", "f", "key", "x1", "C", ""} {
			want, there := first[name]
			if item, ok := iface.Find(l, name); ok != there || key([]api.Item{item}) != key([]api.Item{want}) {
				t.Errorf("Find(%v, %q): %v, %v", l, name, item, ok)
			}
		}
	}
	great := numbered(5000)
	if item, ok := iface.Find(great, "f5999"); !ok || item.Name != "f5999" {
		t.Error("Find among many", item, ok)
	}
}

// TestFindEndless: rule 1, an item is found whose type has no end.
func TestFindEndless(t *testing.T) {
	for _, s := range sample.Endless() {
		item, ok := iface.Find(let("f", s), "f")
		if !ok || item.Kind != api.DeLet || item.Name != "f" || item.Shape.Kind != s.Kind || len(item.Shape.Parts) != len(s.Parts) || &item.Shape.Parts[0] == &s.Parts[0] {
			t.Error("Find of a type without an end")
		}
		if _, ok := iface.Find(let("f", s), "g"); ok {
			t.Error("Find of another name")
		}
	}
}

// TestNew: rule 4, what is handed in is left as it is, and each list of what is handed out is new.
func TestNew(t *testing.T) {
	pick := sample.Pick(rand.New(rand.NewSource(4)).Intn)
	m := sample.Maker{Pick: pick, Env: sample.World(nil)}
	for n := range 400 {
		l := m.Face()
		if n%4 == 0 {
			l = append(odd(), l...)
		}
		l = sample.RoomyItems(l)
		whole, memory := sample.OpenedItems(l), sample.MemoryOf()
		memory.AddItems(l)
		iface.Check(l)
		iface.Show(l)
		s, _ := iface.Encode(l)
		told, _ := iface.Decode(s)
		again, _ := iface.Decode(s)
		told = append(told, again...)
		for _, item := range l {
			for range 2 {
				found, _ := iface.Find(l, item.Name)
				told = append(told, found)
			}
		}
		for _, item := range told {
			if memory.Taken(item.Shape) {
				t.Fatalf("%v is not new", item)
			}
		}
		for _, item := range told {
			sample.Scratch(item.Shape)
		}
		if !reflect.DeepEqual(sample.OpenedItems(l), whole) {
			t.Fatalf("%v was changed", whole)
		}
	}
}

// TestEmpty: rule 3, a list without an element may be nil or empty.
func TestEmpty(t *testing.T) {
	none := api.Shape{Names: []string{}, Parts: []api.Shape{}}
	i, record := none, none
	i.Kind, record.Kind = api.ShInt, api.ShRecord
	l := []api.Item{{Kind: api.DeType, Name: "A", Shape: record}, {Kind: api.DeOpaque, Name: "K", Shape: none}, {Kind: api.DeLet, Name: "f", Shape: i}}
	if s, err := iface.Encode(l); s != encoded(t, sample.Face("type A {}", "opaque K", "let f Int")) || err != api.OK {
		t.Errorf("%x, %v", s, err)
	}
	wantOne(t, l)
	wantOne(t, nil)
	wantOne(t, []api.Item{})
}

// TestChecked: what modules export is an interface that may be.
func TestChecked(t *testing.T) {
	pick := sample.Pick(rand.New(rand.NewSource(5)).Intn)
	items := 0
	for range 300 {
		m := sample.Maker{Pick: pick}
		var deps []api.Dep
		for _, name := range []string{"q", "r", "s"} {
			l, fault := check.Module(m.Module(name, deps...), deps...)
			if fault != (api.Fault{}) {
				t.Fatal(fault)
			}
			wantOne(t, l)
			deps = append(deps, api.Dep{Name: name, Items: l})
			items += len(l)
		}
	}
	if items < 1000 {
		t.Error(items)
	}
}
