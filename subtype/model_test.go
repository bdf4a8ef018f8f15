package subtype_test

import (
	"maps"
	"math/rand"
	"slices"
	"testing"

	"pandect/api"
	"pandect/parse"
	"pandect/shape"
)

// typed is the type of a text, in which the names of package own are opaque types.
func typed(t *testing.T, text string) api.Shape {
	t.Helper()
	s, fault := parse.TypeText(text)
	if fault.Err != api.OK {
		t.Fatalf("%q: error %d at %d", text, int(fault.Err), fault.At)
	}
	var veil func(s *api.Shape)
	veil = func(s *api.Shape) {
		if s.Kind == api.ShName && s.Of == "own" {
			s.Kind = api.ShOpaque
		}
		for i := range s.Parts {
			veil(&s.Parts[i])
		}
	}
	veil(&s)
	return s
}

// key is a text that only one type has, in one order of its names: a ! stands ahead of what is opaque.
func key(s api.Shape) string {
	text := string(rune('0'+s.Kind)) + s.Of + "/" + s.Name + "("
	for i, part := range s.Parts {
		if i < len(s.Names) {
			text += s.Names[i] + ":"
		}
		text += key(part) + ","
	}
	return text + ")"
}

// fieldsOf are the parts of a record or a variant by their names.
func fieldsOf(s api.Shape) map[string]api.Shape {
	m := map[string]api.Shape{}
	for i, name := range s.Names {
		m[name] = s.Parts[i]
	}
	return m
}

// modelBelow answers by the chapter's words, line by line, of types that may be.
func modelBelow(a, b api.Shape) bool {
	x, y := fieldsOf(a), fieldsOf(b)
	switch [2]int{a.Kind, b.Kind} {
	case [2]int{1, 1}, [2]int{2, 2}, [2]int{3, 3}, [2]int{4, 4}:
		return true
	case [2]int{9, 9}, [2]int{10, 10}:
		return a.Of == b.Of && a.Name == b.Name
	case [2]int{5, 5}:
		return modelBelow(a.Parts[0], b.Parts[0])
	case [2]int{6, 6}:
		for name, part := range y {
			if had, ok := x[name]; !ok || !modelBelow(had, part) {
				return false
			}
		}
		return true
	case [2]int{7, 7}:
		for name, part := range x {
			if has, ok := y[name]; !ok || !modelBelow(part, has) {
				return false
			}
		}
		return true
	case [2]int{8, 8}:
		n := len(a.Parts) - 1
		if len(b.Parts) != n+1 {
			return false
		}
		for i := range n {
			if !modelBelow(b.Parts[i], a.Parts[i]) {
				return false
			}
		}
		return modelBelow(a.Parts[n], b.Parts[n])
	}
	return false
}

// modelBound answers by the chapter's table, in the order of texts, of types that may be, however great the answer is: the join if up is 1, the meet if it is 0.
func modelBound(a, b api.Shape, up int) (api.Shape, bool) {
	none := api.Shape{}
	if a.Kind != b.Kind || a.Of != b.Of || a.Name != b.Name || len(a.Names) == 0 && len(b.Names) == 0 && len(a.Parts) != len(b.Parts) {
		return none, false
	}
	s := api.Shape{Kind: a.Kind, Of: a.Of, Name: a.Name}
	if a.Kind != api.ShRecord && a.Kind != api.ShVariant {
		for i := range a.Parts {
			way := up
			if i+1 < len(a.Parts) {
				way = 1 - up
			}
			part, ok := modelBound(a.Parts[i], b.Parts[i], way)
			if !ok {
				return none, false
			}
			s.Parts = append(s.Parts, part)
		}
		return s, true
	}
	x, y := fieldsOf(a), fieldsOf(b)
	all := maps.Clone(x)
	maps.Copy(all, y)
	for _, name := range slices.Sorted(maps.Keys(all)) {
		p, inA := x[name]
		q, inB := y[name]
		part, ok := shape.Sort(all[name]), true
		if inA && inB {
			part, ok = modelBound(p, q, up)
		}
		narrow := up == 1 == (a.Kind == api.ShRecord)
		if !ok && !narrow {
			return none, false
		}
		if ok && (inA && inB || !narrow) {
			s.Names, s.Parts = append(s.Names, name), append(s.Parts, part)
		}
	}
	return s, true
}

// list, record, variant and fun make types of parts.
func list(s api.Shape) api.Shape { return api.Shape{Kind: api.ShList, Parts: []api.Shape{s}} }

func record(names []string, parts ...api.Shape) api.Shape {
	return api.Shape{Kind: api.ShRecord, Names: names, Parts: parts}
}

func variant(names []string, parts ...api.Shape) api.Shape {
	return api.Shape{Kind: api.ShVariant, Names: names, Parts: parts}
}

func fun(parts ...api.Shape) api.Shape { return api.Shape{Kind: api.ShFun, Parts: parts} }

// choices are all lists of n of some types.
func choices(l []api.Shape, n int) [][]api.Shape {
	if n == 0 {
		return [][]api.Shape{nil}
	}
	var all [][]api.Shape
	for _, ahead := range choices(l, n-1) {
		for _, s := range l {
			all = append(all, append(slices.Clone(ahead), s))
		}
	}
	return all
}

// grown are the leaves, and all types of one level more with some of these names, or with so many arguments: with a join or a meet of two of them they have that, too.
func grown(leaves, l []api.Shape, names []string, arguments ...int) []api.Shape {
	all := slices.Clone(leaves)
	for set := range 1 << len(names) {
		var some []string
		for i, name := range names {
			if set>>i&1 == 1 {
				some = append(some, name)
			}
		}
		for _, parts := range choices(l, len(some)) {
			all = append(all, record(some, parts...), variant(some, parts...))
		}
	}
	for _, s := range l {
		all = append(all, list(s))
	}
	for _, n := range arguments {
		for _, parts := range choices(l, n+1) {
			all = append(all, fun(parts...))
		}
	}
	return all
}

// anyType makes a type that may be, of few names; one with a greater number has more within.
func anyType(r *rand.Rand, deep int) api.Shape {
	leaf := func() api.Shape {
		l := []api.Shape{{Kind: 1}, {Kind: 1}, {Kind: 2}, {Kind: 3}, {Kind: 4}, {Kind: 9, Name: "K"}, {Kind: 9, Of: "q", Name: "K"}, {Kind: 10, Of: "q", Name: "K"}, {Kind: 6}, {Kind: 7}}
		return l[r.Intn(len(l))]
	}
	if deep == 0 {
		return leaf()
	}
	switch r.Intn(6) {
	case 0:
		return leaf()
	case 1:
		return list(anyType(r, deep-1))
	case 2:
		s := api.Shape{Kind: api.ShFun}
		for range 1 + r.Intn(3) {
			s.Parts = append(s.Parts, anyType(r, deep-1))
		}
		return s
	default:
		s := api.Shape{Kind: api.ShRecord + r.Intn(2)}
		for _, i := range r.Perm(5)[:r.Intn(5)] {
			s.Names, s.Parts = append(s.Names, fewNames()[i]), append(s.Parts, anyType(r, deep-1))
		}
		return s
	}
}

// fewNames are names, not in the order of texts.
func fewNames() []string { return []string{"b", "aB", "a", "ab", "a_"} }

// likeIt makes a type that is another one but for something here and there: a name less or more, names in another order, seldom a whole part.
func likeIt(r *rand.Rand, s api.Shape) api.Shape {
	if r.Intn(24) == 0 {
		return anyType(r, 1)
	}
	other := api.Shape{Kind: s.Kind, Of: s.Of, Name: s.Name}
	for _, part := range s.Parts {
		other.Parts = append(other.Parts, likeIt(r, part))
	}
	if s.Kind != api.ShRecord && s.Kind != api.ShVariant {
		return other
	}
	parts := fieldsOf(record(s.Names, other.Parts...))
	other.Parts = nil
	for _, i := range r.Perm(5) {
		name := fewNames()[i]
		part, ok := parts[name]
		switch {
		case ok && r.Intn(5) == 0:
			continue
		case !ok && r.Intn(5) == 0:
			part = anyType(r, 1)
		case !ok:
			continue
		}
		other.Names, other.Parts = append(other.Names, name), append(other.Parts, part)
	}
	return other
}
