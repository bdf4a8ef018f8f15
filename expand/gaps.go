package expand

import (
	"slices"

	"pandect/api"
	"pandect/fresh"
)

// typeName is the name of a type, of a package or of none.
type typeName struct{ of, name string }

// gaps are places that are open for what stands behind their keys.
type gaps[K comparable, V any] struct{ places map[K][]*V }

// open opens one more place for what stands behind a key.
func (g gaps[K, V]) open(key K, place *V) { g.places[key] = append(g.places[key], place) }

// fill puts a value in all places that are open for it, which closes them: what comes later for that key changes nothing.
func (g gaps[K, V]) fill(key K, value V) {
	for _, place := range g.places[key] {
		*place = value
	}
	delete(g.places, key)
}

// closed tells whether no place is open.
func (g gaps[K, V]) closed() bool { return len(g.places) == 0 }

// filled tells a type that may be with what its names stand for in their places, and whether each of them stands for something.
func filled(s api.Shape, env []api.Bind) (api.Shape, bool) {
	s = fresh.Shape(s)
	g := gaps[typeName, api.Shape]{places: map[typeName][]*api.Shape{}}
	openNames(g, &s)
	// From behind, as the last bind of a name is the one that counts.
	for _, b := range slices.Backward(env) {
		if g.closed() {
			break
		}
		g.fill(typeName{of: b.Of, name: b.Name}, b.Shape)
	}
	return s, g.closed()
}

// openNames opens the place of each name within a type.
func openNames(g gaps[typeName, api.Shape], s *api.Shape) {
	if s.Kind == api.ShName {
		g.open(typeName{of: s.Of, name: s.Name}, s)
	}
	for i := range s.Parts {
		openNames(g, &s.Parts[i])
	}
}
