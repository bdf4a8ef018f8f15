package sample

import (
	"slices"

	"pandect/api"
)

// Roomy is a type each list of which has more behind its end.
func Roomy(s api.Shape) api.Shape {
	names, parts := append(slices.Clone(s.Names), "z"), append(slices.Clone(s.Parts), api.Shape{Kind: 77})
	for i := range s.Parts {
		parts[i] = Roomy(s.Parts[i])
	}
	s.Names, s.Parts = names[:len(names)-1], parts[:len(parts)-1]
	return s
}

// Opened is a type, copied, with the room behind its lists as parts and names of it, all through.
func Opened(s api.Shape) api.Shape {
	s.Names, s.Parts = slices.Clone(s.Names[:cap(s.Names)]), slices.Clone(s.Parts[:cap(s.Parts)])
	for i := range s.Parts {
		s.Parts[i] = Opened(s.Parts[i])
	}
	return s
}

// Scratch changes all that stands in the lists of a type.
func Scratch(s api.Shape) {
	for i := range s.Names {
		s.Names[i] = "scratched"
	}
	for i := range s.Parts {
		Scratch(s.Parts[i])
		s.Parts[i] = api.Shape{Kind: -1}
	}
}

// Memory is where names and parts of types stand.
type Memory struct {
	names map[*string]struct{}
	parts map[*api.Shape]struct{}
}

// MemoryOf is where those of some types stand.
func MemoryOf(l ...api.Shape) Memory {
	m := Memory{map[*string]struct{}{}, map[*api.Shape]struct{}{}}
	for _, s := range l {
		m.Taken(s)
	}
	return m
}

// Taken puts down where the names and parts of one more type stand, with the room behind them, and tells whether something stands there already.
func (m Memory) Taken(s api.Shape) bool {
	before := len(m.names) + len(m.parts)
	names, parts := s.Names[:cap(s.Names)], s.Parts[:cap(s.Parts)]
	for i := range names {
		m.names[&names[i]] = struct{}{}
	}
	for i := range parts {
		m.parts[&parts[i]] = struct{}{}
	}
	twice := len(m.names)+len(m.parts) != before+len(names)+len(parts)
	for _, part := range s.Parts {
		twice = m.Taken(part) || twice
	}
	return twice
}
