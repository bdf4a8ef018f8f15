package gradual_test

import (
	"slices"

	"pandect/api"
	"pandect/sample"
)

// modelAlike answers by the chapter's words, line by line, of types that may be.
func modelAlike(a, b api.Shape) bool {
	if a.Kind == api.ShAny || b.Kind == api.ShAny {
		return true
	}
	switch [2]int{a.Kind, b.Kind} {
	case [2]int{1, 1}, [2]int{2, 2}, [2]int{3, 3}:
		return true
	case [2]int{9, 9}, [2]int{10, 10}:
		return a.Of == b.Of && a.Name == b.Name
	case [2]int{5, 5}:
		return modelAlike(a.Parts[0], b.Parts[0])
	case [2]int{6, 6}, [2]int{7, 7}:
		parts := sample.Fields(b)
		for i, name := range a.Names {
			part, ok := parts[name]
			if !ok || !modelAlike(a.Parts[i], part) {
				return false
			}
		}
		return len(a.Names) == len(b.Names)
	case [2]int{8, 8}:
		if len(a.Parts) != len(b.Parts) {
			return false
		}
		for i := range a.Parts {
			if !modelAlike(a.Parts[i], b.Parts[i]) {
				return false
			}
		}
		return true
	}
	return false
}

// modelNear answers by the words of below, with near in its place, of types that may be.
func modelNear(a, b api.Shape) bool {
	if a.Kind == api.ShAny || b.Kind == api.ShAny {
		return true
	}
	x, y := sample.Fields(a), sample.Fields(b)
	switch [2]int{a.Kind, b.Kind} {
	case [2]int{1, 1}, [2]int{2, 2}, [2]int{3, 3}:
		return true
	case [2]int{9, 9}, [2]int{10, 10}:
		return a.Of == b.Of && a.Name == b.Name
	case [2]int{5, 5}:
		return modelNear(a.Parts[0], b.Parts[0])
	case [2]int{6, 6}:
		return !slices.ContainsFunc(b.Names, func(name string) bool {
			part, ok := x[name]
			return !ok || !modelNear(part, y[name])
		})
	case [2]int{7, 7}:
		return !slices.ContainsFunc(a.Names, func(name string) bool {
			part, ok := y[name]
			return !ok || !modelNear(x[name], part)
		})
	case [2]int{8, 8}:
		n := len(a.Parts) - 1
		if n != len(b.Parts)-1 {
			return false
		}
		for i := range n {
			if !modelNear(b.Parts[i], a.Parts[i]) {
				return false
			}
		}
		return modelNear(a.Parts[n], b.Parts[n])
	}
	return false
}

// modelBetween answers by the second column of the chapter's table, in the order of texts, of a type that is near another one.
func modelBetween(a, b api.Shape) api.Shape {
	x, y := sample.Fields(a), sample.Fields(b)
	switch {
	case b.Kind == api.ShAny:
		return sorted(a)
	case a.Kind == api.ShAny:
		return api.Shape{Kind: api.ShAny}
	case b.Kind == api.ShRecord:
		return modelNames(b, func(name string) api.Shape {
			return modelBetween(x[name], y[name])
		})
	case b.Kind == api.ShVariant:
		return modelNames(b, func(name string) api.Shape {
			if part, ok := x[name]; ok {
				return modelBetween(part, y[name])
			}
			return sorted(y[name])
		})
	}
	s := api.Shape{Kind: a.Kind, Of: a.Of, Name: a.Name}
	for i := range a.Parts {
		if i < len(a.Parts)-1 {
			s.Parts = append(s.Parts, modelBeside(b.Parts[i], a.Parts[i]))
			continue
		}
		s.Parts = append(s.Parts, modelBetween(a.Parts[i], b.Parts[i]))
	}
	return s
}

// modelBeside answers by the third column.
func modelBeside(a, b api.Shape) api.Shape {
	x, y := sample.Fields(a), sample.Fields(b)
	switch {
	case b.Kind == api.ShAny:
		return api.Shape{Kind: api.ShAny}
	case a.Kind == api.ShAny:
		return sorted(b)
	case a.Kind == api.ShRecord:
		return modelNames(a, func(name string) api.Shape {
			if part, ok := y[name]; ok {
				return modelBeside(x[name], part)
			}
			return sorted(x[name])
		})
	case a.Kind == api.ShVariant:
		return modelNames(a, func(name string) api.Shape {
			return modelBeside(x[name], y[name])
		})
	}
	s := api.Shape{Kind: b.Kind, Of: b.Of, Name: b.Name}
	for i := range a.Parts {
		if i < len(a.Parts)-1 {
			s.Parts = append(s.Parts, modelBetween(b.Parts[i], a.Parts[i]))
			continue
		}
		s.Parts = append(s.Parts, modelBeside(a.Parts[i], b.Parts[i]))
	}
	return s
}

// modelNames makes a type of the names of another one, in the order of texts.
func modelNames(s api.Shape, of func(name string) api.Shape) api.Shape {
	made := api.Shape{Kind: s.Kind}
	for _, name := range slices.Sorted(slices.Values(s.Names)) {
		made.Names, made.Parts = append(made.Names, name), append(made.Parts, of(name))
	}
	return made
}

// sorted is a type in the order of texts.
func sorted(s api.Shape) api.Shape {
	made := api.Shape{Kind: s.Kind, Of: s.Of, Name: s.Name}
	if s.Kind == api.ShRecord || s.Kind == api.ShVariant {
		parts := sample.Fields(s)
		return modelNames(s, func(name string) api.Shape { return sorted(parts[name]) })
	}
	for _, part := range s.Parts {
		made.Parts = append(made.Parts, sorted(part))
	}
	return made
}

// plain tells whether Any stands nowhere in a type.
func plain(s api.Shape) bool {
	for l := []api.Shape{s}; len(l) > 0; l = l[1:] {
		if l[0].Kind == api.ShAny {
			return false
		}
		l = append(l, l[0].Parts...)
	}
	return true
}

// unknown is a type some parts of which are Any, the more the lower a number is.
func unknown(pick sample.Pick, s api.Shape, one int) api.Shape {
	if pick(one) == 0 {
		return api.Shape{Kind: api.ShAny}
	}
	s.Parts = slices.Clone(s.Parts)
	for i, part := range s.Parts {
		s.Parts[i] = unknown(pick, part, one)
	}
	return s
}
