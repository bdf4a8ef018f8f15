package expand_test

import (
	"math/rand"
	"reflect"
	"slices"
	"testing"

	"pandect/api"
	"pandect/expand"
	"pandect/fresh"
	"pandect/parse"
	"pandect/shape"
)

// of is the type of a text, in which names of package own are opaque.
func of(t *testing.T, text string) api.Shape {
	t.Helper()
	s, f := parse.TypeText(text)
	if f != (api.Fault{}) {
		t.Fatalf("%q: error %d at %d", text, int(f.Err), f.At)
	}
	return owned(s)
}

// owned makes names of package own opaque.
func owned(s api.Shape) api.Shape {
	if s.Of == "own" {
		s.Kind = api.ShOpaque
	}
	for i, part := range s.Parts {
		s.Parts[i] = owned(part)
	}
	return s
}

// binds are binds out of pairs of texts: of a name, and of what it stands for.
func binds(t *testing.T, pairs ...string) []api.Bind {
	t.Helper()
	var l []api.Bind
	for i := 0; i < len(pairs); i += 2 {
		name := of(t, pairs[i])
		l = append(l, api.Bind{Of: name.Of, Name: name.Name, Shape: of(t, pairs[i+1])})
	}
	return l
}

// modelResolve answers as the chapter's words go, name by name from the first bind on.
func modelResolve(s api.Shape, env []api.Bind) (api.Shape, api.Errno) {
	if err := shape.Check(s); err != api.OK {
		return api.Shape{}, err
	}
	unknown := 0
	var put func(s api.Shape) api.Shape
	put = func(s api.Shape) api.Shape {
		if s.Kind == api.ShName {
			var last *api.Shape
			for i := range env {
				if env[i].Of == s.Of && env[i].Name == s.Name {
					last = &env[i].Shape
				}
			}
			if last == nil {
				unknown++
				return s
			}
			return *last
		}
		other := api.Shape{Kind: s.Kind, Of: s.Of, Name: s.Name, Names: s.Names}
		for _, part := range s.Parts {
			other.Parts = append(other.Parts, put(part))
		}
		return other
	}
	result := put(s)
	if unknown > 0 {
		return api.Shape{}, api.ErrName
	}
	if err := shape.Check(result); err != api.OK {
		return api.Shape{}, err
	}
	return shape.Sort(result), api.OK
}

// equal holds two types against each other field by field, in one order.
func equal(a, b api.Shape) bool {
	return a.Kind == b.Kind && a.Of == b.Of && a.Name == b.Name && slices.Equal(a.Names, b.Names) && slices.EqualFunc(a.Parts, b.Parts, equal)
}

// equalBinds holds two lists of binds against each other.
func equalBinds(a, b []api.Bind) bool {
	return slices.EqualFunc(a, b, func(x, y api.Bind) bool {
		return x.Of == y.Of && x.Name == y.Name && equal(x.Shape, y.Shape)
	})
}

// room hands out all places of all lists within a thing, with their spare room.
func room(v reflect.Value, take func(at uintptr)) {
	switch v.Kind() {
	case reflect.Struct:
		for i := range v.NumField() {
			room(v.Field(i), take)
		}
	case reflect.Slice:
		all := v.Slice(0, v.Cap())
		for i := range all.Len() {
			take(all.Index(i).UnsafeAddr())
		}
		for i := range v.Len() {
			room(v.Index(i), take)
		}
	}
}

// wantNew asks whether each list of an answer is new memory, which stands in it once.
func wantNew(t *testing.T, answer any, given ...any) {
	t.Helper()
	taken := map[uintptr]bool{}
	for _, one := range given {
		room(reflect.ValueOf(one), func(at uintptr) { taken[at] = true })
	}
	room(reflect.ValueOf(answer), func(at uintptr) {
		if taken[at] {
			t.Fatalf("a list in %.200v is not new", answer)
		}
		taken[at] = true
	})
}

// wantResolve asks Resolve of a type in an environment, against the model; both have to be left as they are, and the answer has to be new.
func wantResolve(t *testing.T, s api.Shape, env []api.Bind) (api.Shape, api.Errno) {
	t.Helper()
	given, around := fresh.Shape(s), fresh.Binds(env)
	want, wantErr := modelResolve(s, env)
	got, err := expand.Resolve(s, env)
	if err != wantErr || !equal(got, want) {
		t.Fatalf("Resolve(%.200v, %.200v) = %.200v, error %d, want %.200v, error %d", s, env, got, int(err), want, int(wantErr))
	}
	if !equal(s, given) || !equalBinds(env, around) {
		t.Fatalf("Resolve(%.200v, %.200v) changed what was handed in", given, around)
	}
	wantNew(t, got, s, env)
	return got, err
}

// wantText asks Resolve for an answer by its text, and a text as - for none.
func wantText(t *testing.T, s api.Shape, env []api.Bind, text string, want api.Errno) {
	t.Helper()
	got, err := wantResolve(t, s, env)
	if err != want {
		t.Errorf("Resolve(%.200v): error %d, want %d", s, int(err), int(want))
	}
	if want != api.OK {
		return
	}
	if shown, _ := shape.Show(got); shown != text {
		t.Errorf("Resolve(%.200v) = %s, want %s", s, shown, text)
	}
}

// anyType makes a type that may be; one whose number is greater has more within.
func anyType(r *rand.Rand, deep int, open bool) api.Shape {
	kind := []int{1, 2, 3, 4, 5, 6, 6, 7, 8, 9, 9, 9, 10}[r.Intn(13)]
	if deep == 0 && kind > 4 && kind < 9 {
		kind -= 4
	}
	if kind == api.ShName && !open {
		kind = api.ShOpaque
	}
	s := api.Shape{Kind: kind}
	switch kind {
	case api.ShList:
		s.Parts = []api.Shape{anyType(r, deep-1, open)}
	case api.ShRecord, api.ShVariant:
		for _, i := range r.Perm(6)[:r.Intn(5)] {
			s.Names = append(s.Names, []string{"a", "b", "ab", "aB", "a_", "a1"}[i])
			s.Parts = append(s.Parts, anyType(r, deep-1, open))
		}
	case api.ShFun:
		for range 1 + r.Intn(3) {
			s.Parts = append(s.Parts, anyType(r, deep-1, open))
		}
	case api.ShName, api.ShOpaque:
		s.Of, s.Name = anyName(r)
		if kind == api.ShOpaque && s.Of == "" {
			s.Of = "r"
		}
	}
	return s
}

// anyName makes the name of a type, of few.
func anyName(r *rand.Rand) (of, name string) {
	return []string{"", "p", "q"}[r.Intn(3)], []string{"K", "Key", "Q"}[r.Intn(3)]
}

// anyEnv makes an environment of some binds, or with one bind at least of each name that there is, whatever stands beside.
func anyEnv(r *rand.Rand, open, all bool) []api.Bind {
	var env []api.Bind
	for range r.Intn(12) {
		of, name := anyName(r)
		env = append(env, api.Bind{Of: of, Name: name, Shape: anyType(r, r.Intn(3), open)})
	}
	if all {
		for _, of := range []string{"", "p", "q"} {
			for _, name := range []string{"K", "Key", "Q"} {
				env = slices.Insert(env, r.Intn(len(env)+1), api.Bind{Of: of, Name: name, Shape: anyType(r, r.Intn(3), open)})
			}
		}
	}
	return env
}

// turned is a type whose fields and cases stand in any other order.
func turned(r *rand.Rand, s api.Shape) api.Shape {
	other := api.Shape{Kind: s.Kind, Of: s.Of, Name: s.Name}
	places := r.Perm(len(s.Names))
	for i := range s.Parts {
		if len(s.Names) > 0 {
			i = places[i]
			other.Names = append(other.Names, s.Names[i])
		}
		other.Parts = append(other.Parts, turned(r, s.Parts[i]))
	}
	return other
}

// around are types with one more within, in each place where one may stand.
func around(s api.Shape) []api.Shape {
	i := api.Shape{Kind: api.ShInt}
	return []api.Shape{
		{Kind: api.ShList, Parts: []api.Shape{s}},
		{Kind: api.ShFun, Parts: []api.Shape{s}},
		{Kind: api.ShFun, Parts: []api.Shape{s, i}},
		{Kind: api.ShFun, Parts: []api.Shape{i, s, i}},
		{Kind: api.ShFun, Parts: []api.Shape{i, s}},
		{Kind: api.ShRecord, Names: []string{"b"}, Parts: []api.Shape{s}},
		{Kind: api.ShRecord, Names: []string{"b", "a"}, Parts: []api.Shape{i, s}},
		{Kind: api.ShVariant, Names: []string{"b", "c", "a"}, Parts: []api.Shape{i, s, i}},
		{Kind: api.ShVariant, Names: []string{"b"}, Parts: []api.Shape{s}},
	}
}

// within is a type, so many lists deep.
func within(s api.Shape, lists int) api.Shape {
	for range lists {
		s = api.Shape{Kind: api.ShList, Parts: []api.Shape{s}}
	}
	return s
}

// wide is a function with so many parts, each of which is the type.
func wide(s api.Shape, parts int) api.Shape {
	return api.Shape{Kind: api.ShFun, Parts: slices.Repeat([]api.Shape{s}, parts)}
}

// spare is a list with more behind its end.
func spare[E any](behind E, l ...E) []E {
	return append(slices.Clone(l), behind)[:len(l)]
}

// misfits are types that may not be, each for another thing.
func misfits() []api.Shape {
	i := api.Shape{Kind: api.ShInt}
	return []api.Shape{
		{}, {Kind: -1}, {Kind: 11}, {Kind: 1<<32 + api.ShName, Name: "A"}, {Kind: api.ShInt, Name: "A"}, {Kind: api.ShList}, {Kind: api.ShList, Parts: []api.Shape{i, i}},
		{Kind: api.ShRecord, Names: []string{"a", "a"}, Parts: []api.Shape{i, i}}, {Kind: api.ShVariant, Names: []string{"A"}, Parts: []api.Shape{i}}, {Kind: api.ShFun},
		{Kind: api.ShName}, {Kind: api.ShName, Name: "a"}, {Kind: api.ShName, Name: "Int"}, {Kind: api.ShName, Of: "Q", Name: "A"}, {Kind: api.ShName, Of: "let", Name: "A"}, {Kind: api.ShName, Name: "A", Parts: []api.Shape{i}}, {Kind: api.ShName, Name: "A", Names: []string{"a"}}, {Kind: api.ShName, Name: "q/Key"},
		{Kind: api.ShOpaque, Name: "A"}, {Kind: api.ShOpaque, Of: "q"},
	}
}
