package shape

import (
	"slices"

	"pandect/api"
	"pandect/lex"
)

// words has the text of each kind that has no fields at its number.
var words = [...]string{api.ShInt: "Int", api.ShBool: "Bool", api.ShText: "Text", api.ShAny: "Any"}

// misfits tells whether a part of a type does not fit.
func misfits(s api.Shape) bool { return !fits(s) || slices.ContainsFunc(s.Parts, misfits) }

// fits tells whether a part fits, whatever its own parts are.
func fits(s api.Shape) bool {
	switch s.Kind {
	case api.ShInt, api.ShBool, api.ShText, api.ShAny:
		return isUnnamed(s) && len(s.Names) == 0 && len(s.Parts) == 0
	case api.ShList:
		return isUnnamed(s) && len(s.Names) == 0 && len(s.Parts) == 1
	case api.ShRecord, api.ShVariant:
		return isUnnamed(s) && len(s.Names) == len(s.Parts) && areNames(s.Names)
	case api.ShFun:
		return isUnnamed(s) && len(s.Names) == 0 && len(s.Parts) > 0
	case api.ShName:
		return isNamed(s) && len(s.Names) == 0 && len(s.Parts) == 0
	case api.ShOpaque:
		return lex.Name(s.Of) && lex.Upper(s.Name) && len(s.Names) == 0 && len(s.Parts) == 0
	}
	return false
}

// isUnnamed tells whether a part has no name of its own.
func isUnnamed(s api.Shape) bool { return s.Of == "" && s.Name == "" }

// isNamed tells whether a part has the name of a type.
func isNamed(s api.Shape) bool {
	if s.Of == "" {
		return lex.Upper(s.Name) && !isWord(s.Name)
	}
	return lex.Name(s.Of) && lex.Upper(s.Name)
}

// isWord tells whether an upper name is the text of a kind.
func isWord(name string) bool {
	for _, word := range words {
		if word == name {
			return true
		}
	}
	return false
}

// areNames tells whether all of some texts are names, no two the same.
func areNames(l []string) bool {
	seen := map[string]struct{}{}
	for _, name := range l {
		if _, ok := seen[name]; ok || !lex.Name(name) {
			return false
		}
		seen[name] = struct{}{}
	}
	return true
}
