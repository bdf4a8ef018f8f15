package synth

import (
	"pandect/api"
	"pandect/expand"
	"pandect/gradual"
	"pandect/shape"
)

// typer tells the types of the parts of an expression that may be, where they stand.
type typer struct {
	self   string
	types  []api.Bind
	own    map[string]api.Shape
	values *scope
}

// typerIn is the typer of what stands in an environment itself.
func typerIn(env api.Env) typer {
	return typer{
		self:  env.Self,
		types: env.Types,
		own:   lastBy(env.Own, func(b api.Bind) string { return b.Name }),
		values: &scope{bound: lastBy(env.Values, func(b api.Bind) valueName {
			return valueName{of: b.Of, name: b.Name}
		})},
	}
}

// with is the typer of what stands where names are bound to types behind all values.
func (r typer) with(names []string, shapes []api.Shape) typer {
	inner := scope{bound: map[valueName]api.Shape{}, around: r.values}
	for i, name := range names {
		inner.bound[valueName{name: name}] = shapes[i]
	}
	r.values = &inner
	return r
}

// typed tells the type of a part, in order and in new memory.
func (r typer) typed(t api.Term) (api.Shape, api.Fault) {
	s, fault := r.made(t)
	if fault.Err == api.OK {
		fault = faultAt(t, shape.Check(s))
	}
	if fault.Err != api.OK {
		return api.Shape{}, fault
	}
	return shape.Sort(s), api.Fault{}
}

// made tells the type of a part by its kind, in any order, however great. With a fault it may be anything.
func (r typer) made(t api.Term) (api.Shape, api.Fault) {
	switch t.Kind {
	case api.TmInt:
		return simple(api.ShInt), api.Fault{}
	case api.TmText:
		return simple(api.ShText), api.Fault{}
	case api.TmTrue, api.TmFalse:
		return simple(api.ShBool), api.Fault{}
	case api.TmVar:
		return r.value(t)
	case api.TmFun:
		return r.function(t)
	case api.TmCall:
		return r.call(t)
	case api.TmRecord, api.TmCase:
		return r.named(t)
	case api.TmField:
		return r.field(t)
	case api.TmMatch:
		return r.match(t)
	case api.TmLet:
		return r.let(t)
	case api.TmNew, api.TmRaw:
		return r.owned(t)
	}
	return r.said(t)
}

// fits tells no fault, if a part has a type that fits another one.
func (r typer) fits(part api.Term, wanted api.Shape) api.Fault {
	s, fault := r.typed(part)
	if fault.Err == api.OK && !gradual.Near(s, wanted) {
		return faultAt(part, api.ErrType)
	}
	return fault
}

// resolved tells what the types in a part stand for.
func (r typer) resolved(t api.Term) ([]api.Shape, api.Fault) {
	shapes := make([]api.Shape, len(t.Shapes))
	for i, written := range t.Shapes {
		s, err := expand.Resolve(written, r.types)
		if err != api.OK {
			return nil, faultAt(t, err)
		}
		shapes[i] = s
	}
	return shapes, api.Fault{}
}

// faultAt is an error at a part's own place, or none.
func faultAt(t api.Term, err api.Errno) api.Fault {
	if err == api.OK {
		return api.Fault{}
	}
	return api.Fault{Err: err, At: t.At}
}
