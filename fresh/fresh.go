// Package fresh tells trees, binds and modules as they are, in new memory: none of their lists is one that was handed in, and none stands in them twice. What may not be is told so, too.
package fresh

import (
	"slices"

	"pandect/api"
)

// Shape tells a type in new memory.
func Shape(s api.Shape) api.Shape {
	parts := func(s *api.Shape) *[]api.Shape { return &s.Parts }
	return copied(s, parts, func(s *api.Shape) { s.Names = slices.Clone(s.Names) })
}

// Term tells an expression in new memory.
func Term(t api.Term) api.Term {
	parts := func(t *api.Term) *[]api.Term { return &t.Parts }
	return copied(t, parts, func(t *api.Term) {
		t.Names, t.Vars, t.Shapes = slices.Clone(t.Names), slices.Clone(t.Vars), slices.Clone(t.Shapes)
		for i, s := range t.Shapes {
			t.Shapes[i] = Shape(s)
		}
	})
}

// Binds tells binds in new memory.
func Binds(l []api.Bind) []api.Bind {
	l = slices.Clone(l)
	for i, b := range l {
		l[i].Shape = Shape(b.Shape)
	}
	return l
}

// Module tells a module in new memory.
func Module(m api.Module) api.Module {
	m.Imports, m.Decls, m.Exports = slices.Clone(m.Imports), slices.Clone(m.Decls), slices.Clone(m.Exports)
	for i := range m.Imports {
		m.Imports[i].Range = slices.Clone(m.Imports[i].Range)
	}
	for i := range m.Decls {
		d := &m.Decls[i]
		d.Shape, d.Term = Shape(d.Shape), Term(d.Term)
	}
	return m
}
