package subtype_test

import (
	"maps"
	"slices"

	"pandect/api"
	"pandect/sample"
	"pandect/shape"
)

// modelBelow answers by the chapter's words, line by line, of types that may be.
func modelBelow(a, b api.Shape) bool {
	x, y := sample.Fields(a), sample.Fields(b)
	switch [2]int{a.Kind, b.Kind} {
	case [2]int{1, 1}, [2]int{2, 2}, [2]int{3, 3}, [2]int{4, 4}:
		return true
	case [2]int{9, 9}, [2]int{10, 10}:
		return a.Of == b.Of && a.Name == b.Name
	case [2]int{5, 5}:
		return modelBelow(a.Parts[0], b.Parts[0])
	case [2]int{6, 6}:
		for name, part := range y {
			if had, ok := x[name]; !ok || !modelBelow(had, part) {
				return false
			}
		}
		return true
	case [2]int{7, 7}:
		for name, part := range x {
			if has, ok := y[name]; !ok || !modelBelow(part, has) {
				return false
			}
		}
		return true
	case [2]int{8, 8}:
		n := len(a.Parts) - 1
		if len(b.Parts) != n+1 {
			return false
		}
		for i := range n {
			if !modelBelow(b.Parts[i], a.Parts[i]) {
				return false
			}
		}
		return modelBelow(a.Parts[n], b.Parts[n])
	}
	return false
}

// modelBound answers by the chapter's table, in the order of texts, of types that may be, however great the answer is: the join if up is 1, the meet if it is 0.
func modelBound(a, b api.Shape, up int) (api.Shape, bool) {
	none := api.Shape{}
	if a.Kind != b.Kind || a.Of != b.Of || a.Name != b.Name || len(a.Names) == 0 && len(b.Names) == 0 && len(a.Parts) != len(b.Parts) {
		return none, false
	}
	s := api.Shape{Kind: a.Kind, Of: a.Of, Name: a.Name}
	if a.Kind != api.ShRecord && a.Kind != api.ShVariant {
		for i := range a.Parts {
			way := up
			if i+1 < len(a.Parts) {
				way = 1 - up
			}
			part, ok := modelBound(a.Parts[i], b.Parts[i], way)
			if !ok {
				return none, false
			}
			s.Parts = append(s.Parts, part)
		}
		return s, true
	}
	x, y := sample.Fields(a), sample.Fields(b)
	all := maps.Clone(x)
	maps.Copy(all, y)
	for _, name := range slices.Sorted(maps.Keys(all)) {
		p, inA := x[name]
		q, inB := y[name]
		part, ok := shape.Sort(all[name]), true
		if inA && inB {
			part, ok = modelBound(p, q, up)
		}
		narrow := up == 1 == (a.Kind == api.ShRecord)
		if !ok && !narrow {
			return none, false
		}
		if ok && (inA && inB || !narrow) {
			s.Names, s.Parts = append(s.Names, name), append(s.Parts, part)
		}
	}
	return s, true
}

// choices are all lists of n of some types.
func choices(l []api.Shape, n int) [][]api.Shape {
	if n == 0 {
		return [][]api.Shape{nil}
	}
	var all [][]api.Shape
	for _, ahead := range choices(l, n-1) {
		for _, s := range l {
			all = append(all, append(slices.Clone(ahead), s))
		}
	}
	return all
}

// grown are the leaves, and all types of one level more with some of these names, or with so many arguments: with a join or a meet of two of them they have that, too.
func grown(leaves, l []api.Shape, names []string, arguments ...int) []api.Shape {
	all := slices.Clone(leaves)
	for set := range 1 << len(names) {
		var some []string
		for i, name := range names {
			if set>>i&1 == 1 {
				some = append(some, name)
			}
		}
		for _, parts := range choices(l, len(some)) {
			all = append(all, sample.Record(some, parts...), sample.Variant(some, parts...))
		}
	}
	for _, s := range l {
		all = append(all, sample.List(s))
	}
	for _, n := range arguments {
		for _, parts := range choices(l, n+1) {
			all = append(all, sample.Fun(parts...))
		}
	}
	return all
}
