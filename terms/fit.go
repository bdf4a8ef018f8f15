package terms

import (
	"slices"
	"unicode/utf8"

	"pandect/api"
	"pandect/lex"
	"pandect/shape"
)

// mostNumber is the greatest number that stands in an expression.
const mostNumber = 999999999999999

// control is the first byte above those that stand in no text but as a tab or a line's end.
const control = 32

// counts are how many things stand in each list of a part.
type counts struct{ names, vars, shapes, parts int }

// misfits tells whether a part of an expression does not fit.
func misfits(t api.Term) bool { return !fits(t) || slices.ContainsFunc(t.Parts, misfits) }

// fits tells whether a part fits, whatever its own parts are. What stands in a list is asked of each kind alike, as a kind that has none in it asks for an empty one.
func fits(t api.Term) bool {
	return t.At >= 0 && numberFits(t) && ofFits(t) && nameFits(t) && countsFit(t) &&
		areNames(t.Names) && areApart(t.Names) && areNames(t.Vars) && areTypes(t.Shapes)
}

// numberFits tells whether a part's N is as its kind asks.
func numberFits(t api.Term) bool {
	return t.N == 0 || t.Kind == api.TmInt && t.N > 0 && t.N <= mostNumber
}

// ofFits tells whether a part's Of is as its kind asks.
func ofFits(t api.Term) bool { return t.Of == "" || t.Kind == api.TmVar && lex.Name(t.Of) }

// nameFits tells whether a part's Name is as its kind asks.
func nameFits(t api.Term) bool {
	switch t.Kind {
	case api.TmText:
		return isQuotable(t.Name)
	case api.TmVar, api.TmField, api.TmCase, api.TmLet:
		return lex.Name(t.Name)
	case api.TmNew, api.TmRaw:
		return lex.Upper(t.Name)
	}
	return t.Name == ""
}

// countsFit tells whether a part is of a kind, and its lists are as long as that asks.
func countsFit(t api.Term) bool {
	has := counts{names: len(t.Names), vars: len(t.Vars), shapes: len(t.Shapes), parts: len(t.Parts)}
	switch t.Kind {
	case api.TmInt, api.TmText, api.TmTrue, api.TmFalse, api.TmVar:
		return has == counts{}
	case api.TmFun:
		return has == counts{names: has.names, shapes: has.names, parts: 1}
	case api.TmCall:
		return has == counts{parts: max(has.parts, 1)}
	case api.TmRecord:
		return has == counts{names: has.names, parts: has.names}
	case api.TmField, api.TmCase, api.TmNew, api.TmRaw:
		return has == counts{parts: 1}
	case api.TmList:
		return has == counts{shapes: 1, parts: has.parts}
	case api.TmIf:
		return has == counts{shapes: 1, parts: 3}
	case api.TmMatch:
		return has == counts{names: has.names, vars: has.names, shapes: has.names + 1, parts: has.names + 1}
	case api.TmLet:
		return has == counts{parts: 2}
	case api.TmAs:
		return has == counts{shapes: 1, parts: 1}
	}
	return false
}

// isQuotable tells whether a text may stand in an expression.
func isQuotable(s string) bool {
	for i := range len(s) {
		if s[i] < control && s[i] != '\t' && s[i] != '\n' {
			return false
		}
	}
	return utf8.ValidString(s)
}

// areNames tells whether all of some texts are names.
func areNames(l []string) bool {
	return !slices.ContainsFunc(l, func(s string) bool { return !lex.Name(s) })
}

// areApart tells whether no two of some texts are the same.
func areApart(l []string) bool {
	seen := map[string]struct{}{}
	for _, s := range l {
		seen[s] = struct{}{}
	}
	return len(seen) == len(l)
}

// areTypes tells whether all of some types may stand in an expression.
func areTypes(l []api.Shape) bool {
	return !slices.ContainsFunc(l, func(s api.Shape) bool { return shape.Check(s) != api.OK || hasOpaque(s) })
}

// hasOpaque tells whether a part of a type is opaque, which no text says.
func hasOpaque(s api.Shape) bool {
	return s.Kind == api.ShOpaque || slices.ContainsFunc(s.Parts, hasOpaque)
}
