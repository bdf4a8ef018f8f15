package module

import (
	"slices"

	"pandect/api"
	"pandect/lex"
	"pandect/ranges"
	"pandect/semver"
	"pandect/shape"
	"pandect/terms"
)

// mayBe tells whether a module may be.
func mayBe(m api.Module) bool {
	return m.At >= 0 && lex.Name(m.Name) && importsFit(m) && declsFit(m.Decls) && exportsFit(m.Exports)
}

// importsFit tells whether a module's imports may be.
func importsFit(m api.Module) bool {
	if len(m.Imports) > api.MaxImports {
		return false
	}
	names := []string{m.Name}
	for _, one := range m.Imports {
		if !importFits(one) {
			return false
		}
		names = append(names, one.Name)
	}
	return areApart(names)
}

// importFits tells whether an import may be, whatever stands beside it.
func importFits(one api.Import) bool {
	return one.At >= 0 && lex.Name(one.Name) && semver.Check(one.Pin) == api.OK &&
		ranges.Check(one.Range) == api.OK && ranges.Meets(one.Pin, one.Range)
}

// declsFit tells whether a module's declarations may be.
func declsFit(l []api.Decl) bool {
	names := keptUppers()
	for _, d := range l {
		if !declFits(d) {
			return false
		}
		names = append(names, d.Name)
	}
	return areApart(names)
}

// declFits tells whether a declaration may be, whatever stands beside it.
func declFits(d api.Decl) bool {
	switch d.Kind {
	case api.DeType, api.DeOpaque:
		return d.At >= 0 && lex.Upper(d.Name) && isType(d.Shape) && isNoTerm(d.Term)
	case api.DeLet:
		return d.At >= 0 && lex.Name(d.Name) && isNoShape(d.Shape) && terms.Check(d.Term) == api.OK
	}
	return false
}

// exportsFit tells whether a module's exports may be.
func exportsFit(l []string) bool {
	return len(l) <= api.MaxItems && areApart(l) &&
		!slices.ContainsFunc(l, func(name string) bool { return !lex.Name(name) && !lex.Upper(name) })
}

// keptUppers are the upper names that no declaration may have.
func keptUppers() []string { return []string{"Int", "Bool", "Text", "Any"} }

// areApart tells whether no two of some names are the same.
func areApart(l []string) bool {
	seen := map[string]struct{}{}
	for _, name := range l {
		seen[name] = struct{}{}
	}
	return len(seen) == len(l)
}

// isType tells whether a type may stand in a declaration.
func isType(s api.Shape) bool { return shape.Check(s) == api.OK && !hasOpaque(s) }

// hasOpaque tells whether a part of a type is opaque, which no text says.
func hasOpaque(s api.Shape) bool {
	return s.Kind == api.ShOpaque || slices.ContainsFunc(s.Parts, hasOpaque)
}

// isNoShape tells whether nothing stands in a type.
func isNoShape(s api.Shape) bool {
	return s.Kind == 0 && s.Of == "" && s.Name == "" && len(s.Names) == 0 && len(s.Parts) == 0
}

// isNoTerm tells whether nothing stands in an expression.
func isNoTerm(t api.Term) bool {
	return t.Kind == 0 && t.Of == "" && t.Name == "" && t.N == 0 && t.At == 0 &&
		len(t.Names) == 0 && len(t.Vars) == 0 && len(t.Shapes) == 0 && len(t.Parts) == 0
}
