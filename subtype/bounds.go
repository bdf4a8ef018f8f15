package subtype

import (
	"pandect/api"
	"pandect/pairs"
	"pandect/shape"
)

// bound makes of two types that may be their join, or their meet, however great it is, and tells whether there is one.
type bound func(a, b api.Shape) (api.Shape, bool)

// whole tells a bound of two types, whatever they are, as it is handed out.
func whole(a, b api.Shape, of bound) (api.Shape, bool) {
	if !mayBe(a) || !mayBe(b) {
		return api.Shape{}, false
	}
	s, ok := of(a, b)
	if !ok || !mayBe(s) {
		return api.Shape{}, false
	}
	return shape.Sort(s), true
}

// join makes the least type that both are below.
func join(a, b api.Shape) (api.Shape, bool) {
	switch {
	case a.Kind != b.Kind:
		return api.Shape{}, false
	case a.Kind == api.ShRecord:
		return ofBoth(a, b, join)
	case a.Kind == api.ShVariant:
		return ofEither(a, b, join)
	}
	return ofPlaces(a, b, meet, join)
}

// meet makes the greatest type that is below both.
func meet(a, b api.Shape) (api.Shape, bool) {
	switch {
	case a.Kind != b.Kind:
		return api.Shape{}, false
	case a.Kind == api.ShRecord:
		return ofEither(a, b, meet)
	case a.Kind == api.ShVariant:
		return ofBoth(a, b, meet)
	}
	return ofPlaces(a, b, join, meet)
}

// ofBoth makes a type of the names that both have, where there is a bound of their parts.
func ofBoth(a, b api.Shape, of bound) (api.Shape, bool) {
	made := api.Shape{Kind: a.Kind}
	ok := pairs.Names(a, b, func(name string, x, y *api.Shape) bool {
		if x == nil || y == nil {
			return true
		}
		if part, ok := of(*x, *y); ok {
			put(&made, name, part)
		}
		return true
	})
	return made, ok
}

// ofEither makes a type of all names, where there is a bound of all parts that stand by the same name.
func ofEither(a, b api.Shape, of bound) (api.Shape, bool) {
	made := api.Shape{Kind: a.Kind}
	ok := pairs.Names(a, b, func(name string, x, y *api.Shape) bool {
		part, ok := api.Shape{}, true
		switch {
		case y == nil:
			part = *x
		case x == nil:
			part = *y
		default:
			part, ok = of(*x, *y)
		}
		put(&made, name, part)
		return ok
	})
	return made, ok
}

// ofPlaces makes a type of bounds of parts in the same place: of the last one that of results, of the others that of arguments.
func ofPlaces(a, b api.Shape, ofArgument, ofResult bound) (api.Shape, bool) {
	made := api.Shape{Kind: a.Kind, Of: a.Of, Name: a.Name}
	ok := pairs.Places(a, b, func(x, y api.Shape, last bool) bool {
		of := ofArgument
		if last {
			of = ofResult
		}
		part, ok := of(x, y)
		made.Parts = append(made.Parts, part)
		return ok
	})
	return made, ok
}

// put puts one more name with its part into a record or a variant.
func put(s *api.Shape, name string, part api.Shape) {
	s.Names, s.Parts = append(s.Names, name), append(s.Parts, part)
}
