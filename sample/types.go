// Package sample makes types, expressions, modules and interfaces for the tests of the layers: by their texts, by their parts, at random, wrong ones, and such that what is done in their memory can be seen. It is for tests alone.
package sample

import (
	"strconv"

	"pandect/api"
	"pandect/parse"
)

// Type is the type of a text, in which the names of package own are opaque types. It panics at a text that is wrong.
func Type(text string) api.Shape {
	return veiled(right(text, parse.TypeText), func(of string) bool { return of == "own" })
}

// Term is the expression of a text. It panics at a text that is wrong.
func Term(text string) api.Term { return right(text, parse.TermText) }

// right is what is read out of a text. It panics at one that is wrong, as a test that is wrong itself must not pass.
func right[T any](text string, read func(string) (T, api.Fault)) T {
	s, fault := read(text)
	if fault != (api.Fault{}) {
		panic(text)
	}
	return s
}

// veiled is a type in which the names of some packages are opaque types.
func veiled(s api.Shape, of func(string) bool) api.Shape {
	if s.Kind == api.ShName && of(s.Of) {
		s.Kind = api.ShOpaque
	}
	for i, part := range s.Parts {
		s.Parts[i] = veiled(part, of)
	}
	return s
}

// Key is a text that only one type has, in one order of its names.
func Key(s api.Shape) string {
	text := strconv.Itoa(s.Kind) + " " + s.Of + "/" + s.Name + "("
	for _, name := range s.Names {
		text += name + ":"
	}
	for _, part := range s.Parts {
		text += Key(part) + ","
	}
	return text + ")"
}

// List makes a list of a part.
func List(s api.Shape) api.Shape { return api.Shape{Kind: api.ShList, Parts: []api.Shape{s}} }

// Record makes a record of names and parts.
func Record(names []string, parts ...api.Shape) api.Shape {
	return api.Shape{Kind: api.ShRecord, Names: names, Parts: parts}
}

// Variant makes a variant of names and parts.
func Variant(names []string, parts ...api.Shape) api.Shape {
	return api.Shape{Kind: api.ShVariant, Names: names, Parts: parts}
}

// Fun makes a function of arguments and a result.
func Fun(parts ...api.Shape) api.Shape { return api.Shape{Kind: api.ShFun, Parts: parts} }

// Int is the type of numbers.
func Int() api.Shape { return api.Shape{Kind: api.ShInt} }

// Numbered is a type of that kind with so many parts, whose names go on from a first one.
func Numbered(kind, first, n int, part api.Shape) api.Shape {
	s := api.Shape{Kind: kind}
	for i := range n {
		s.Names, s.Parts = append(s.Names, "n"+strconv.Itoa(first+i)), append(s.Parts, part)
	}
	return s
}

// Within is a type, so many lists deep.
func Within(s api.Shape, lists int) api.Shape {
	for range lists {
		s = List(s)
	}
	return s
}

// Fields are the parts of a record or a variant by their names.
func Fields(s api.Shape) map[string]api.Shape {
	m := map[string]api.Shape{}
	for i, name := range s.Names {
		m[name] = s.Parts[i]
	}
	return m
}
