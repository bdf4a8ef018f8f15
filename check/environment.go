package check

import (
	"pandect/api"
	"pandect/expand"
	"pandect/synth"
)

// environment is what a declaration is checked in; each one that is checked adds to it.
type environment struct{ api.Env }

// bare is the environment of a module of that name ahead of its imports.
func bare(self string) environment {
	return environment{api.Env{Self: self, Values: synth.Base()}}
}

// takeIn adds the types and the values of a package's interface.
func (e *environment) takeIn(of string, items []api.Item) {
	e.Types = append(e.Types, expand.Types(of, items)...)
	for _, item := range items {
		if item.Kind == api.DeLet {
			e.bind(of, item.Name, item.Shape)
		}
	}
}

// bind adds a value of a package, or of the module itself.
func (e *environment) bind(of, name string, s api.Shape) {
	e.Values = append(e.Values, api.Bind{Of: of, Name: name, Shape: s})
}

// declare adds a declaration of a module that may be, and tells what it is as an item.
func (e *environment) declare(d api.Decl) (api.Item, api.Fault) {
	if d.Kind == api.DeLet {
		return e.declareValue(d)
	}
	return e.declareType(d)
}

// declareValue adds a value, whose expression has a type.
func (e *environment) declareValue(d api.Decl) (api.Item, api.Fault) {
	s, fault := synth.Type(d.Term, e.Env)
	if fault.Err != api.OK {
		return api.Item{}, fault
	}
	e.bind("", d.Name, s)
	return api.Item{Kind: d.Kind, Name: d.Name, Shape: s}, api.Fault{}
}

// declareType adds a name of a type; of a type of the module's own also what it is made of, which no one else is told. Resolve tells both that and Declare's error: Declare itself would tell all that is there anew for each declaration.
func (e *environment) declareType(d api.Decl) (api.Item, api.Fault) {
	s, err := expand.Resolve(d.Shape, e.Types)
	if err != api.OK {
		return api.Item{}, api.Fault{Err: err, At: d.At}
	}
	item, stands := api.Item{Kind: d.Kind, Name: d.Name}, s
	if d.Kind == api.DeOpaque {
		stands = api.Shape{Kind: api.ShOpaque, Of: e.Self, Name: d.Name}
		e.Own = append(e.Own, api.Bind{Name: d.Name, Shape: s})
	} else {
		item.Shape = s
	}
	e.Types = append(e.Types, api.Bind{Name: d.Name, Shape: stands})
	return item, api.Fault{}
}
