package sample

import (
	"slices"

	"pandect/api"
)

// Roomy is a type each list of which has more behind its end.
func Roomy(s api.Shape) api.Shape {
	s.Names, s.Parts = room(s.Names, "z"), each(room(s.Parts, api.Shape{Kind: 77}), Roomy)
	return s
}

// Opened is a type, copied, with the room behind its lists as parts and names of it, all through.
func Opened(s api.Shape) api.Shape {
	s.Names, s.Parts = opened(s.Names), each(opened(s.Parts), Opened)
	return s
}

// room is a list, copied, with something behind its end.
func room[E any](l []E, behind E) []E { return append(slices.Clone(l), behind)[:len(l)] }

// opened is a list, copied, with what is behind its end.
func opened[E any](l []E) []E { return slices.Clone(l[:cap(l)]) }

// each changes all things of a list.
func each[E any](l []E, change func(E) E) []E {
	for i, one := range l {
		l[i] = change(one)
	}
	return l
}

// RoomyTerm is an expression each list of which has more behind its end.
func RoomyTerm(t api.Term) api.Term {
	t.Names, t.Vars = room(t.Names, "z"), room(t.Vars, "z")
	t.Shapes = each(room(t.Shapes, api.Shape{Kind: 77}), Roomy)
	t.Parts = each(room(t.Parts, api.Term{Kind: 77}), RoomyTerm)
	return t
}

// OpenedTerm is an expression, copied, with the room behind its lists, all through.
func OpenedTerm(t api.Term) api.Term {
	t.Names, t.Vars = opened(t.Names), opened(t.Vars)
	t.Shapes, t.Parts = each(opened(t.Shapes), Opened), each(opened(t.Parts), OpenedTerm)
	return t
}

// RoomyBinds are binds each list of which has more behind its end, as has the list of them.
func RoomyBinds(l []api.Bind) []api.Bind {
	return each(room(l, api.Bind{Name: "z"}), func(b api.Bind) api.Bind { return api.Bind{Of: b.Of, Name: b.Name, Shape: Roomy(b.Shape)} })
}

// OpenedBinds are binds, copied, with the room behind all lists.
func OpenedBinds(l []api.Bind) []api.Bind {
	return each(opened(l), func(b api.Bind) api.Bind { return api.Bind{Of: b.Of, Name: b.Name, Shape: Opened(b.Shape)} })
}

// RoomyItems are items each list of which has more behind its end, as has the list of them.
func RoomyItems(l []api.Item) []api.Item {
	return each(room(l, api.Item{Name: "z"}), func(item api.Item) api.Item {
		return api.Item{Kind: item.Kind, Name: item.Name, Shape: Roomy(item.Shape)}
	})
}

// OpenedItems are items, copied, with the room behind all lists.
func OpenedItems(l []api.Item) []api.Item {
	return each(opened(l), func(item api.Item) api.Item {
		return api.Item{Kind: item.Kind, Name: item.Name, Shape: Opened(item.Shape)}
	})
}

// RoomyModule is a module each list of which has more behind its end.
func RoomyModule(m api.Module) api.Module {
	m.Imports = each(room(m.Imports, api.Import{Name: "z"}), func(one api.Import) api.Import {
		one.Range = room(one.Range, api.Bound{Op: 77})
		return one
	})
	m.Decls = each(room(m.Decls, api.Decl{Name: "z"}), func(d api.Decl) api.Decl {
		d.Shape, d.Term = Roomy(d.Shape), RoomyTerm(d.Term)
		return d
	})
	m.Exports = room(m.Exports, "z")
	return m
}

// OpenedModule is a module, copied, with the room behind its lists, all through.
func OpenedModule(m api.Module) api.Module {
	m.Imports = each(opened(m.Imports), func(one api.Import) api.Import {
		one.Range = opened(one.Range)
		return one
	})
	m.Decls = each(opened(m.Decls), func(d api.Decl) api.Decl {
		d.Shape, d.Term = Opened(d.Shape), OpenedTerm(d.Term)
		return d
	})
	m.Exports = opened(m.Exports)
	return m
}

// Scratch changes all that stands in the lists of a type.
func Scratch(s api.Shape) {
	for i := range s.Names {
		s.Names[i] = "scratched"
	}
	for i := range s.Parts {
		Scratch(s.Parts[i])
		s.Parts[i] = api.Shape{Kind: -1}
	}
}

// Memory is where names and parts of types stand.
type Memory struct {
	names map[*string]struct{}
	parts map[*api.Shape]struct{}
}

// MemoryOf is where those of some types stand.
func MemoryOf(l ...api.Shape) Memory {
	m := Memory{map[*string]struct{}{}, map[*api.Shape]struct{}{}}
	for _, s := range l {
		m.Taken(s)
	}
	return m
}

// AddTerm puts down where the names and types of an expression stand.
func (m Memory) AddTerm(t api.Term) {
	for _, l := range [][]string{t.Names, t.Vars} {
		m.Taken(api.Shape{Names: l})
	}
	m.Taken(api.Shape{Parts: t.Shapes})
	for _, part := range t.Parts {
		m.AddTerm(part)
	}
}

// AddModule puts down where the names and types of a module stand.
func (m Memory) AddModule(made api.Module) {
	m.Taken(api.Shape{Names: made.Exports})
	for _, d := range made.Decls {
		m.Taken(d.Shape)
		m.AddTerm(d.Term)
	}
}

// AddItems puts down where the names and parts of items' types stand.
func (m Memory) AddItems(l []api.Item) {
	for _, item := range l {
		m.Taken(item.Shape)
	}
}

// AddBinds puts down where the names and parts of binds' types stand.
func (m Memory) AddBinds(l []api.Bind) {
	for _, b := range l {
		m.Taken(b.Shape)
	}
}

// Taken puts down where the names and parts of one more type stand, with the room behind them, and tells whether something stands there already.
func (m Memory) Taken(s api.Shape) bool {
	before := len(m.names) + len(m.parts)
	names, parts := s.Names[:cap(s.Names)], s.Parts[:cap(s.Parts)]
	for i := range names {
		m.names[&names[i]] = struct{}{}
	}
	for i := range parts {
		m.parts[&parts[i]] = struct{}{}
	}
	twice := len(m.names)+len(m.parts) != before+len(names)+len(parts)
	for _, part := range s.Parts {
		twice = m.Taken(part) || twice
	}
	return twice
}
