// Package pairs goes through two types side by side, for the layers that hold one against the other.
package pairs

import "pandect/api"

// Names hands out each name of two records, or of two variants, that may be, with the parts that they have by it, nil for one that has none, till it is told false. It tells whether it never was.
func Names(a, b api.Shape, take func(name string, x, y *api.Shape) bool) bool {
	parts := map[string]*api.Shape{}
	for i, name := range b.Names {
		parts[name] = &b.Parts[i]
	}
	for i, name := range a.Names {
		if !take(name, &a.Parts[i], parts[name]) {
			return false
		}
		delete(parts, name)
	}
	for _, name := range b.Names {
		if part, ok := parts[name]; ok && !take(name, nil, part) {
			return false
		}
	}
	return true
}

// Places hands out the parts of two types of one kind without names, place by place, and whether that is the last one, till it is told false. It tells whether it never was, and whether the types have as many parts and the same name of their own.
func Places(a, b api.Shape, take func(x, y api.Shape, last bool) bool) bool {
	if a.Of != b.Of || a.Name != b.Name || len(a.Parts) != len(b.Parts) {
		return false
	}
	for i, x := range a.Parts {
		if !take(x, b.Parts[i], i == len(a.Parts)-1) {
			return false
		}
	}
	return true
}
