package terms

import "pandect/api"

// same tells whether two expressions that may be are the same but for their places.
func same(a, b api.Term) bool {
	return a.Kind == b.Kind && a.Of == b.Of && a.Name == b.Name && a.N == b.N &&
		match(a.Names, b.Names, equal) && match(a.Vars, b.Vars, equal) &&
		match(a.Shapes, b.Shapes, sameType) && match(a.Parts, b.Parts, same)
}

// sameType tells whether two types are just the same, their fields and cases in one order.
func sameType(a, b api.Shape) bool {
	return a.Kind == b.Kind && a.Of == b.Of && a.Name == b.Name &&
		match(a.Names, b.Names, equal) && match(a.Parts, b.Parts, sameType)
}

// match holds two lists against each other: whether they are as long, and one by one what stands in them is the same.
func match[E any](a, b []E, same func(a, b E) bool) bool {
	if len(a) != len(b) {
		return false
	}
	for i := range a {
		if !same(a[i], b[i]) {
			return false
		}
	}
	return true
}

// equal tells whether two texts are the same.
func equal(a, b string) bool { return a == b }
