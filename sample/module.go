package sample

import (
	"slices"

	"pandect/api"
	"pandect/expand"
	"pandect/module"
	"pandect/synth"
)

// Module is the module of a text. It panics at a text that is wrong.
func Module(text string) api.Module { return right(text, module.Parse) }

// PlacedModule is a module, copied, which and whose parts have the places from a first one on, each another one.
func PlacedModule(m api.Module, first int) api.Module {
	m.At = first
	m.Imports, m.Decls = slices.Clone(m.Imports), slices.Clone(m.Decls)
	for i := range m.Imports {
		first++
		m.Imports[i].At = first
	}
	for i := range m.Decls {
		d := &m.Decls[i]
		first++
		d.At = first
		if d.Kind == api.DeLet {
			d.Term, first = placed(d.Term, first+1)
		}
	}
	return m
}

// Module makes a module of that name at random, which speaks of packages. It is one that may be; if the maker does not slip, it is right but for what the packages' types are.
func (m Maker) Module(name string, deps ...api.Dep) api.Module {
	made := api.Module{Name: name}
	m.Env = api.Env{Self: name, Values: synth.Base()}
	for _, i := range m.Pick.order(len(deps)) {
		made.Imports = append(made.Imports, api.Import{Name: deps[i].Name, Pin: api.Version{Major: 1}})
		m.Env = imported(m.Env, deps[i])
	}
	names := []string{"A", "f", "K", "x", "Box", "g", "add", "L", "h", "y", "Pair", "none"}
	for _, i := range m.Pick.order(len(names))[:m.Pick(len(names))] {
		d := m.decl(names[i])
		env, ok := declared(m.Env, d)
		if ok {
			m.Env = env
		}
		if ok || m.Slip > 0 {
			made.Decls = append(made.Decls, d)
		}
	}
	for _, i := range m.Pick.order(len(made.Decls)) {
		if m.Pick(4) > 0 {
			made.Exports = append(made.Exports, made.Decls[i].Name)
		}
	}
	return made
}

// order picks an order of so many things.
func (pick Pick) order(n int) []int {
	l := make([]int, n)
	for i := range l {
		j := pick(i + 1)
		l[i], l[j] = l[j], i
	}
	return l
}

// decl makes a declaration of a name.
func (m Maker) decl(name string) api.Decl {
	switch {
	case name[0] >= 'a':
		return api.Decl{Kind: api.DeLet, Name: name, Term: m.Term(m.Type(2), m.Pick(4))}
	case m.Pick(2) == 0:
		return api.Decl{Kind: api.DeOpaque, Name: name, Shape: m.spoken(m.Pick.Any(2))}
	}
	return api.Decl{Kind: api.DeType, Name: name, Shape: m.spoken(m.Pick.Any(2))}
}

// imported is an environment with what a package exports.
func imported(env api.Env, dep api.Dep) api.Env {
	env.Types = append(slices.Clone(env.Types), expand.Types(dep.Name, dep.Items)...)
	for _, item := range dep.Items {
		if item.Kind == api.DeLet {
			env = synth.With(env, api.Bind{Of: dep.Name, Name: item.Name, Shape: item.Shape})
		}
	}
	return env
}

// declared is an environment with one more declaration, if it is right there.
func declared(env api.Env, d api.Decl) (api.Env, bool) {
	if d.Kind == api.DeLet {
		s, fault := synth.Type(d.Term, env)
		return synth.With(env, api.Bind{Name: d.Name, Shape: s}), fault.Err == api.OK
	}
	if s, err := expand.Resolve(d.Shape, env.Types); d.Kind == api.DeOpaque && err == api.OK {
		env.Own = append(slices.Clone(env.Own), api.Bind{Name: d.Name, Shape: s})
	}
	types, err := expand.Declare(env.Types, env.Self, d)
	env.Types = types
	return env, err == api.OK
}
