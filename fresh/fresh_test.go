package fresh_test

import (
	"reflect"
	"slices"
	"testing"

	"pandect/api"
	"pandect/fresh"
)

// room hands out all places of all lists within a thing, with their spare room.
func room(v reflect.Value, take func(at uintptr)) {
	switch v.Kind() {
	case reflect.Struct:
		for i := range v.NumField() {
			room(v.Field(i), take)
		}
	case reflect.Slice:
		all := v.Slice(0, v.Cap())
		for i := range all.Len() {
			take(all.Index(i).UnsafeAddr())
		}
		for i := range v.Len() {
			room(v.Index(i), take)
		}
	}
}

// wantFresh asks whether a copy is the same as what was handed in, and each of its lists is new memory, which stands in it once.
func wantFresh[T any](t *testing.T, given, copied T) {
	t.Helper()
	if !reflect.DeepEqual(given, copied) {
		t.Fatalf("the copy of %.200v is %.200v", given, copied)
	}
	taken := map[uintptr]bool{}
	room(reflect.ValueOf(given), func(at uintptr) { taken[at] = true })
	room(reflect.ValueOf(copied), func(at uintptr) {
		if taken[at] {
			t.Fatalf("a list in the copy of %.200v is not new", given)
		}
		taken[at] = true
	})
}

// spare is a list with more behind its end.
func spare[E any](behind E, l ...E) []E {
	return append(slices.Clone(l), behind)[:len(l)]
}

// anyShape is a type of no kind with something in each field.
func anyShape() api.Shape {
	return api.Shape{Kind: -7, Of: "\xff", Name: "let", Names: spare("z", "b", "", "b"), Parts: spare(api.Shape{Kind: 3}, api.Shape{}, api.Shape{Kind: 99, Names: []string{"a"}})}
}

// anyTerm is an expression of no kind with something in each field.
func anyTerm() api.Term {
	part := api.Term{Kind: -1, Vars: []string{"v"}, Shapes: []api.Shape{anyShape()}, At: -3}
	return api.Term{Kind: 99, Of: "Q", Name: "\xff", N: -5, Names: spare("z", "b", "b"), Vars: spare("z", "", "x"), Shapes: spare(anyShape(), anyShape(), anyShape()), Parts: spare(part, part, api.Term{}, part), At: 9}
}

// doubled is a thing in pairs of pairs, so many times, whose lists stand in it again and again.
func doubled[T any](part T, times int, pair func(l []T) T) T {
	for range times {
		part = pair([]T{part, part})
	}
	return part
}

func pairShape(l []api.Shape) api.Shape {
	return api.Shape{Kind: api.ShRecord, Names: []string{"b", "a"}, Parts: l}
}

func pairTerm(l []api.Term) api.Term {
	return api.Term{Kind: api.TmCall, Names: []string{"n"}, Shapes: []api.Shape{anyShape()}, Parts: l, At: 4}
}

// nested is a thing, so many times within another one.
func nested[T any](part T, times int, one func(l []T) T) T {
	for range times {
		part = one([]T{part})
	}
	return part
}

// TestFresh: whatever is handed in is told as it is, in new memory.
func TestFresh(t *testing.T) {
	for _, s := range []api.Shape{{}, anyShape(), {Names: []string{}, Parts: []api.Shape{}}, {Kind: 1, Parts: make([]api.Shape, 5000)}, doubled(anyShape(), 5, pairShape)} {
		wantFresh(t, s, fresh.Shape(s))
	}
	for _, u := range []api.Term{{}, anyTerm(), {Names: []string{}, Vars: []string{}, Shapes: []api.Shape{}, Parts: []api.Term{}}, {Kind: 1, Parts: make([]api.Term, 5000)}, doubled(anyTerm(), 5, pairTerm)} {
		wantFresh(t, u, fresh.Term(u))
	}
}

// anyModule is a module that may not be with something in each field.
func anyModule() api.Module {
	bound := api.Bound{Op: 9, V: api.Version{Major: -1, Pre: "."}}
	one := api.Import{Name: "Q", Pin: bound.V, Range: spare(bound, bound, api.Bound{}), At: -1}
	decl := api.Decl{Kind: 9, Name: "let", Shape: anyShape(), Term: anyTerm(), At: 5}
	return api.Module{Name: "P", Imports: spare(one, one, one, api.Import{}), Decls: spare(decl, decl, api.Decl{}, decl), Exports: spare("z", "a", "a"), At: -7}
}

// TestBinds: whatever binds are handed in are told as they are, in new memory, and left as they are.
func TestBinds(t *testing.T) {
	binds := func() []api.Bind {
		return spare(api.Bind{Name: "Z"}, api.Bind{Of: "q", Name: "A", Shape: anyShape()}, api.Bind{}, api.Bind{Of: "\xff", Name: "let", Shape: doubled(anyShape(), 3, pairShape)}, api.Bind{Of: "q", Name: "A", Shape: anyShape()})
	}
	for _, l := range [][]api.Bind{nil, {}, {{}}, {{Shape: api.Shape{Names: []string{}, Parts: []api.Shape{}}}}, binds()} {
		wantFresh(t, l, fresh.Binds(l))
	}
	l := binds()
	wantFresh(t, append(l, l[0]), fresh.Binds(append(l, l[0])))
	l = binds()
	copied := fresh.Binds(l)
	copied[0].Name, copied[0].Shape.Names[0], copied[2].Shape.Parts[1].Kind = "q", "q", 77
	_ = append(copied, api.Bind{Name: "q"})
	if !reflect.DeepEqual(l[:5], append(binds(), api.Bind{Name: "Z"})) {
		t.Errorf("%v", l)
	}
}

// TestModule: whatever module is handed in is told as it is, in new memory, and left as it is.
func TestModule(t *testing.T) {
	for _, m := range []api.Module{{}, anyModule(), {Imports: []api.Import{}, Decls: []api.Decl{}, Exports: []string{}}, {Imports: []api.Import{{Range: []api.Bound{}}}, Decls: []api.Decl{{Shape: api.Shape{Names: []string{}}, Term: api.Term{Vars: []string{}}}}}} {
		wantFresh(t, m, fresh.Module(m))
	}
	m := anyModule()
	copied := fresh.Module(m)
	copied.Imports[0].Range[0].Op, copied.Imports[1].At, copied.Exports[0] = 77, 77, "q"
	copied.Decls[0].Shape.Parts[0].Kind, copied.Decls[0].Term.Parts[0].At, copied.Decls[2].At = 77, 77, 77
	_ = append(copied.Exports, "q")
	if !reflect.DeepEqual(m, anyModule()) || m.Exports[:3][2] != "z" {
		t.Errorf("%v", m)
	}
}

// TestLeft: what is handed in is left as it is, its spare room, too.
func TestLeft(t *testing.T) {
	u := anyTerm()
	copied := fresh.Term(u)
	copied.Names[0], copied.Vars[0], copied.Parts[0].At = "q", "q", 77
	copied.Shapes[0].Names[0], copied.Shapes[0].Parts[1].Kind = "q", 77
	_ = append(copied.Names, "q")
	_ = append(copied.Parts, api.Term{Kind: 77})
	want := anyTerm()
	if !reflect.DeepEqual(u, want) || u.Names[:3][2] != "z" || !reflect.DeepEqual(u.Parts[:4][3], want.Parts[:4][3]) || !reflect.DeepEqual(u.Shapes[:3][2], want.Shapes[:3][2]) {
		t.Errorf("%v", u)
	}
}

// TestShared: lists that stand in many places of a great tree are told in new memory in each of them.
func TestShared(t *testing.T) {
	s := doubled(api.Shape{Kind: api.ShInt}, 17, pairShape)
	wantFresh(t, s, fresh.Shape(s))
	u := doubled(api.Term{Kind: api.TmTrue}, 17, func(l []api.Term) api.Term { return api.Term{Kind: api.TmCall, Parts: l} })
	wantFresh(t, u, fresh.Term(u))
	// Lists of other lengths that begin at one place are other lists.
	l := make([]api.Term, 9)
	u = api.Term{Parts: []api.Term{{Parts: l[:3]}, {Parts: l}, {Parts: l[1:]}, {Parts: l[:3]}}}
	wantFresh(t, u, fresh.Term(u))
}

// TestDeep: trees of more levels than calls could go down are told, too.
func TestDeep(t *testing.T) {
	for _, times := range []int{1<<16 - 1, 1 << 16, 1 << 18} {
		u, levels := nested(api.Term{At: 5}, times, func(l []api.Term) api.Term { return api.Term{Kind: api.TmCase, Parts: l} }), 0
		copied := fresh.Term(u)
		for ; len(copied.Parts) == 1; levels++ {
			if &copied.Parts[0] == &u.Parts[0] || copied.Kind != api.TmCase {
				t.Fatal("a list that is not new", levels)
			}
			copied, u = copied.Parts[0], u.Parts[0]
		}
		if levels != times || copied.At != 5 {
			t.Error(levels, times)
		}
	}
}

// wantAlong asks whether two things have as many parts as far as so many levels, along the last parts, and no list there stands in both.
func wantAlong[T any](t *testing.T, a, b T, levels int, list func(T) []T) {
	t.Helper()
	for n := range levels {
		l, m := list(a), list(b)
		if len(l) != len(m) || len(l) == 0 {
			t.Fatalf("%d parts at level %d, want %d", len(m), n, len(l))
		}
		last := len(l) - 1
		if &l[last] == &m[last] {
			t.Fatalf("a list that is not new at level %d", n)
		}
		a, b = l[last], m[last]
	}
}

// TestEndless: lists that stand in themselves, and lists that stand in more places than memory has.
func TestEndless(t *testing.T) {
	shapes := func(s api.Shape) []api.Shape { return s.Parts }
	own := pairShape(make([]api.Shape, 2))
	own.Parts[1] = own
	many := doubled(api.Shape{Kind: api.ShInt}, 100, pairShape)
	wantAlong(t, own, fresh.Shape(own), 200, shapes)
	wantAlong(t, many, fresh.Shape(many), 100, shapes)

	terms := func(u api.Term) []api.Term { return u.Parts }
	self := pairTerm(make([]api.Term, 2))
	self.Parts[1], self.Shapes[0] = self, own
	wantAlong(t, self, fresh.Term(self), 200, terms)
	wantAlong(t, own, fresh.Term(self).Shapes[0], 200, shapes)
	great := doubled(api.Term{Kind: api.TmTrue}, 100, pairTerm)
	wantAlong(t, great, fresh.Term(great), 100, terms)
	if copied := fresh.Term(self); copied.At != 4 || copied.Kind != api.TmCall || !slices.Equal(copied.Names, self.Names) || copied.Parts[1].At != 4 {
		t.Error("fields of a part that stands in itself")
	}
	// Lists of other lengths that begin at one place are other lists.
	l := make([]api.Term, 9)
	copied := fresh.Term(pairTerm([]api.Term{{Parts: l[:3]}, {Parts: l}, {Parts: l[:5]}, self}))
	if len(copied.Parts[0].Parts) != 3 || len(copied.Parts[1].Parts) != 9 || len(copied.Parts[2].Parts) != 5 {
		t.Error("lists that begin at one place")
	}
}
