package synth

import "pandect/api"

// valueName is the name of a value, of a package or of none.
type valueName struct{ of, name string }

// scope is what names of values stand for: those that are bound in it, and, but for these, those around it.
type scope struct {
	bound  map[valueName]api.Shape
	around *scope
}

// find tells the type that was bound last to a name.
func (s *scope) find(name valueName) (api.Shape, bool) {
	for ; s != nil; s = s.around {
		if found, ok := s.bound[name]; ok {
			return found, true
		}
	}
	return api.Shape{}, false
}

// lastBy tells the type of the last bind by each key.
func lastBy[K comparable](binds []api.Bind, key func(api.Bind) K) map[K]api.Shape {
	last := map[K]api.Shape{}
	for _, b := range binds {
		last[key(b)] = b.Shape
	}
	return last
}
