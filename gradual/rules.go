package gradual

import (
	"pandect/api"
	"pandect/pairs"
)

// rules are those by which two types are held against each other, part by part.
type rules struct {
	// alone is the one question that they differ in: whether, of two types of a kind, the first one may have a name that the second one has not, or the second one a name that the first one has not.
	alone func(kind int, first bool) bool
}

// alike makes the rules of types that may be the same: no name may be missing.
func alike() rules { return aloneIn(0, 0) }

// near makes the rules of types of which the first may be below the second: it may have more fields, and less cases.
func near() rules { return aloneIn(api.ShRecord, api.ShVariant) }

// aloneIn makes rules by which the first type may have names of its own, if it is of one kind, and the second one, if it is of another.
func aloneIn(first, second int) rules {
	return rules{alone: func(kind int, isFirst bool) bool {
		if isFirst {
			return kind == first
		}
		return kind == second
	}}
}

// ask tells whether two types may be, and the rules hold for them.
func (r rules) ask(a, b api.Shape) bool { return mayBe(a) && mayBe(b) && r.hold(a, b) }

// hold tells whether the rules hold for two types that may be.
func (r rules) hold(a, b api.Shape) bool {
	switch {
	case a.Kind == api.ShAny || b.Kind == api.ShAny:
		return true
	case a.Kind != b.Kind:
		return false
	case a.Kind == api.ShRecord || a.Kind == api.ShVariant:
		return pairs.Names(a, b, func(_ string, x, y *api.Shape) bool {
			if x == nil || y == nil {
				return r.alone(a.Kind, x != nil)
			}
			return r.hold(*x, *y)
		})
	}
	return pairs.Places(a, b, func(x, y api.Shape, last bool) bool {
		if last {
			return r.hold(x, y)
		}
		return r.hold(y, x)
	})
}
