package gradual

import (
	"pandect/api"
	"pandect/pairs"
)

// named makes a type that is one of two, but with the names of the other one, however great it is. One of them is near the other.
//
// Between and Beside are this, but for which of the two comes first: where they stand in each other's place, in the arguments of functions, the types do so, too.
func named(s, names api.Shape) api.Shape {
	if s.Kind == api.ShAny || names.Kind == api.ShAny {
		return s
	}
	made := api.Shape{Kind: s.Kind, Of: s.Of, Name: s.Name}
	if s.Kind == api.ShRecord || s.Kind == api.ShVariant {
		pairs.Names(s, names, func(name string, x, y *api.Shape) bool {
			if y != nil {
				made.Names, made.Parts = append(made.Names, name), append(made.Parts, either(x, *y))
			}
			return true
		})
		return made
	}
	pairs.Places(s, names, func(x, y api.Shape, _ bool) bool {
		made.Parts = append(made.Parts, named(x, y))
		return true
	})
	return made
}

// either makes the part by a name that the second of two types has: the first one may have none.
func either(x *api.Shape, y api.Shape) api.Shape {
	if x == nil {
		return y
	}
	return named(*x, y)
}
