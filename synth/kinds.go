package synth

import (
	"slices"

	"pandect/api"
)

// value tells the type of a value's name.
func (r typer) value(t api.Term) (api.Shape, api.Fault) {
	s, ok := r.values.find(valueName{of: t.Of, name: t.Name})
	if !ok {
		return s, faultAt(t, api.ErrName)
	}
	return s, api.Fault{}
}

// function tells the type of a function.
func (r typer) function(t api.Term) (api.Shape, api.Fault) {
	parts, fault := r.resolved(t)
	if fault.Err != api.OK {
		return api.Shape{}, fault
	}
	result, fault := r.with(t.Names, parts).typed(t.Parts[0])
	return api.Shape{Kind: api.ShFun, Parts: append(parts, result)}, fault
}

// call tells the type of a call.
func (r typer) call(t api.Term) (api.Shape, api.Fault) {
	called, fault := r.typed(t.Parts[0])
	if fault.Err != api.OK {
		return called, fault
	}
	var wanted []api.Shape
	switch {
	case called.Kind == api.ShAny:
		// Of what is not known as many parts as it is called with are not known, and so is the last one.
		wanted = slices.Repeat([]api.Shape{called}, len(t.Parts))
	case called.Kind == api.ShFun && len(called.Parts) == len(t.Parts):
		wanted = called.Parts
	default:
		return called, faultAt(t, api.ErrType)
	}
	for i, part := range t.Parts[1:] {
		if fault := r.fits(part, wanted[i]); fault.Err != api.OK {
			return called, fault
		}
	}
	return wanted[len(wanted)-1], api.Fault{}
}

// named tells the type of a record, or of one case of a variant.
func (r typer) named(t api.Term) (api.Shape, api.Fault) {
	s := api.Shape{Kind: api.ShRecord, Names: t.Names}
	if t.Kind == api.TmCase {
		s = api.Shape{Kind: api.ShVariant, Names: []string{t.Name}}
	}
	for _, part := range t.Parts {
		one, fault := r.typed(part)
		if fault.Err != api.OK {
			return s, fault
		}
		s.Parts = append(s.Parts, one)
	}
	return s, api.Fault{}
}

// field tells the type of a field of a record.
func (r typer) field(t api.Term) (api.Shape, api.Fault) {
	s, fault := r.typed(t.Parts[0])
	if fault.Err != api.OK || s.Kind == api.ShAny {
		return s, fault
	}
	at := slices.Index(s.Names, t.Name)
	if s.Kind != api.ShRecord || at < 0 {
		return s, faultAt(t, api.ErrType)
	}
	return s.Parts[at], api.Fault{}
}

// match tells the type of a choice by cases.
func (r typer) match(t api.Term) (api.Shape, api.Fault) {
	shapes, fault := r.resolved(t)
	if fault.Err != api.OK {
		return api.Shape{}, fault
	}
	last := len(shapes) - 1
	inner, wanted := r, api.Shape{Kind: api.ShVariant, Names: t.Names, Parts: shapes[:last]}
parts:
	for i, part := range t.Parts {
		fault = inner.fits(part, wanted)
		switch {
		case fault.Err != api.OK:
			break parts
		case i < last:
			// A name is bound in the part one place further on, as the first part has none.
			inner, wanted = r.with(t.Vars[i:i+1], shapes[i:i+1]), shapes[last]
		}
	}
	return shapes[last], fault
}

// let tells the type of what stands behind a name's value.
func (r typer) let(t api.Term) (api.Shape, api.Fault) {
	s, fault := r.typed(t.Parts[0])
	if fault.Err != api.OK {
		return s, fault
	}
	return r.with([]string{t.Name}, []api.Shape{s}).typed(t.Parts[1])
}

// owned tells the type of what is made the module's own type, or of what that was made of.
func (r typer) owned(t api.Term) (api.Shape, api.Fault) {
	own := api.Shape{Kind: api.ShOpaque, Of: r.self, Name: t.Name}
	of, ok := r.own[t.Name]
	switch {
	case !ok:
		return own, faultAt(t, api.ErrName)
	case t.Kind == api.TmNew:
		return own, r.fits(t.Parts[0], of)
	}
	return of, r.fits(t.Parts[0], own)
}

// said tells the type that stands in a list, in a choice by a truth, or in what is to be taken as it.
func (r typer) said(t api.Term) (api.Shape, api.Fault) {
	shapes, fault := r.resolved(t)
	if fault.Err != api.OK {
		return api.Shape{}, fault
	}
	s := shapes[0]
	for i, part := range t.Parts {
		wanted := s
		if i == 0 && t.Kind == api.TmIf {
			wanted = simple(api.ShBool)
		}
		if fault := r.fits(part, wanted); fault.Err != api.OK {
			return s, fault
		}
	}
	if t.Kind == api.TmList {
		return api.Shape{Kind: api.ShList, Parts: shapes}, api.Fault{}
	}
	return s, api.Fault{}
}
