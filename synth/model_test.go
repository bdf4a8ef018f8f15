package synth_test

import (
	"slices"

	"pandect/api"
	"pandect/expand"
	"pandect/gradual"
	"pandect/sample"
	"pandect/shape"
	"pandect/terms"
)

// modelType answers by the chapter's words and its table, line by line.
func modelType(t api.Term, env api.Env) (s api.Shape, fault api.Fault) {
	if err := terms.Check(t); err != api.OK {
		return s, api.Fault{Err: err}
	}
	defer func() {
		if first, ok := recover().(api.Fault); ok {
			s, fault = api.Shape{}, first
		}
	}()
	return model(t, env), fault
}

// model tells the type of a part. It panics with the first fault.
func model(t api.Term, env api.Env) api.Shape {
	s := modelKind(t, env)
	if err := shape.Check(s); err != api.OK {
		panic(api.Fault{Err: err, At: t.At})
	}
	return s
}

// modelKind tells the type of a part by its line of the table.
func modelKind(t api.Term, env api.Env) api.Shape {
	refuse := func(err api.Errno) { panic(api.Fault{Err: err, At: t.At}) }
	var stands []api.Shape
	for _, s := range t.Shapes {
		result, err := expand.Resolve(s, env.Types)
		if err != api.OK {
			refuse(err)
		}
		stands = append(stands, result)
	}
	last := len(stands) - 1
	switch t.Kind {
	case api.TmInt:
		return api.Shape{Kind: api.ShInt}
	case api.TmText:
		return api.Shape{Kind: api.ShText}
	case api.TmTrue, api.TmFalse:
		return api.Shape{Kind: api.ShBool}
	case api.TmVar:
		for _, b := range slices.Backward(env.Values) {
			if b.Of == t.Of && b.Name == t.Name {
				return shape.Sort(b.Shape)
			}
		}
		refuse(api.ErrName)
	case api.TmFun:
		for i, name := range t.Names {
			env = modelWith(env, name, stands[i])
		}
		return sample.Fun(append(stands, model(t.Parts[0], env))...)
	case api.TmCall:
		called := model(t.Parts[0], env)
		if called.Kind != api.ShAny && (called.Kind != api.ShFun || len(called.Parts) != len(t.Parts)) {
			refuse(api.ErrType)
		}
		for i, part := range t.Parts[1:] {
			if called.Kind == api.ShAny {
				model(part, env)
			} else {
				modelFits(part, env, called.Parts[i])
			}
		}
		if called.Kind == api.ShAny {
			return api.Shape{Kind: api.ShAny}
		}
		return called.Parts[len(t.Parts)-1]
	case api.TmRecord:
		s := api.Shape{Kind: api.ShRecord, Names: t.Names}
		for _, part := range t.Parts {
			s.Parts = append(s.Parts, model(part, env))
		}
		return shape.Sort(s)
	case api.TmField:
		s := model(t.Parts[0], env)
		if s.Kind == api.ShAny {
			return s
		}
		part, ok := sample.Fields(s)[t.Name]
		if !ok || s.Kind != api.ShRecord {
			refuse(api.ErrType)
		}
		return part
	case api.TmCase:
		return sample.Variant([]string{t.Name}, model(t.Parts[0], env))
	case api.TmList:
		for _, part := range t.Parts {
			modelFits(part, env, stands[0])
		}
		return sample.List(stands[0])
	case api.TmIf:
		modelFits(t.Parts[0], env, api.Shape{Kind: api.ShBool})
		modelFits(t.Parts[1], env, stands[0])
		modelFits(t.Parts[2], env, stands[0])
		return stands[0]
	case api.TmMatch:
		modelFits(t.Parts[0], env, sample.Variant(t.Names, stands[:last]...))
		for i, part := range t.Parts[1:] {
			modelFits(part, modelWith(env, t.Vars[i], stands[i]), stands[last])
		}
		return stands[last]
	case api.TmLet:
		return model(t.Parts[1], modelWith(env, t.Name, model(t.Parts[0], env)))
	case api.TmAs:
		modelFits(t.Parts[0], env, stands[0])
		return stands[0]
	case api.TmNew, api.TmRaw:
		own := api.Shape{Kind: api.ShOpaque, Of: env.Self, Name: t.Name}
		at := -1
		for i, b := range env.Own {
			if b.Name == t.Name {
				at = i
			}
		}
		if at < 0 {
			refuse(api.ErrName)
		}
		if t.Kind == api.TmNew {
			modelFits(t.Parts[0], env, env.Own[at].Shape)
			return own
		}
		modelFits(t.Parts[0], env, own)
		return shape.Sort(env.Own[at].Shape)
	}
	return api.Shape{}
}

// modelFits panics, unless a part's type is near another one.
func modelFits(part api.Term, env api.Env, wanted api.Shape) {
	if !gradual.Near(model(part, env), wanted) {
		panic(api.Fault{Err: api.ErrType, At: part.At})
	}
}

// modelWith is an environment with one more value.
func modelWith(env api.Env, name string, s api.Shape) api.Env {
	env.Values = append(slices.Clone(env.Values), api.Bind{Name: name, Shape: s})
	return env
}
