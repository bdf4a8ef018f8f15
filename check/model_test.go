package check_test

import (
	"slices"

	"pandect/api"
	"pandect/expand"
	"pandect/module"
	"pandect/synth"
)

// modelFace is the interface of a package by the chapter's words.
func modelFace(name string, deps []api.Dep) ([]api.Item, bool) {
	for _, dep := range slices.Backward(deps) {
		if dep.Name == name {
			return dep.Items, true
		}
	}
	return nil, false
}

// modelModule answers by the chapter's words.
func modelModule(m api.Module, deps []api.Dep) ([]api.Item, api.Fault) {
	if module.Check(m) != api.OK {
		return nil, api.Fault{Err: api.ErrModule}
	}
	env := api.Env{Self: m.Name, Values: synth.Base()}
	for _, one := range m.Imports {
		items, ok := modelFace(one.Name, deps)
		if !ok {
			return nil, api.Fault{Err: api.ErrUnknown, At: one.At}
		}
		env.Types = slices.Concat(env.Types, expand.Types(one.Name, items))
		for _, item := range items {
			if item.Kind == api.DeLet {
				env.Values = append(env.Values, api.Bind{Of: one.Name, Name: item.Name, Shape: item.Shape})
			}
		}
	}
	for _, d := range m.Decls {
		next, fault := modelDecl(d, env)
		if fault != (api.Fault{}) {
			return nil, fault
		}
		env = next
	}
	return modelExports(m, env)
}

// modelDecl is the environment behind a declaration.
func modelDecl(d api.Decl, env api.Env) (api.Env, api.Fault) {
	if d.Kind == api.DeLet {
		s, fault := synth.Type(d.Term, env)
		return synth.With(env, api.Bind{Name: d.Name, Shape: s}), fault
	}
	types, err := expand.Declare(env.Types, env.Self, d)
	if err != api.OK {
		return env, api.Fault{Err: err, At: d.At}
	}
	if d.Kind == api.DeOpaque {
		s, _ := expand.Resolve(d.Shape, env.Types)
		env.Own = slices.Concat(env.Own, []api.Bind{{Name: d.Name, Shape: s}})
	}
	env.Types = types
	return env, api.Fault{}
}

// modelExports draws a module's interface out of the environment behind its last declaration.
func modelExports(m api.Module, env api.Env) ([]api.Item, api.Fault) {
	var items []api.Item
	for _, name := range m.Exports {
		i := slices.IndexFunc(m.Decls, func(d api.Decl) bool { return d.Name == name })
		if i < 0 {
			return nil, api.Fault{Err: api.ErrExport, At: m.At}
		}
		item := api.Item{Kind: m.Decls[i].Kind, Name: name}
		binds := map[int][]api.Bind{api.DeType: env.Types, api.DeLet: env.Values}[item.Kind]
		for _, b := range binds {
			if b.Of == "" && b.Name == name {
				item.Shape = b.Shape
			}
		}
		items = append(items, item)
	}
	slices.SortFunc(items, func(a, b api.Item) int {
		if a.Name < b.Name {
			return -1
		}
		return 1
	})
	return items, api.Fault{}
}
