package terms_test

import (
	"fmt"
	"regexp"
	"slices"
	"strings"
	"unicode/utf8"

	"pandect/api"
	"pandect/shape"
)

// The chapter's words as forms.
var (
	formKept  = regexp.MustCompile(`^(module|import|pin|range|type|opaque|let|in|export|fun|if|then|else|case|of|as|new|raw|true|false)$`)
	formName  = regexp.MustCompile(`^[a-z][a-zA-Z0-9_]{0,23}$`)
	formUpper = regexp.MustCompile(`^[A-Z][a-zA-Z0-9_]{0,23}$`)
	formText  = regexp.MustCompile(`^[^\x00-\x08\x0b-\x1f]*$`)
)

func isName(s string) bool { return formName.MatchString(s) && !formKept.MatchString(s) }

// allNames tells whether all of some texts are names.
func allNames(l []string) bool {
	return !slices.ContainsFunc(l, func(s string) bool { return !isName(s) })
}

// noTwo tells whether no two of some texts are the same.
func noTwo(l []string) bool {
	for i, s := range l {
		if slices.Contains(l[:i], s) {
			return false
		}
	}
	return true
}

// allTypes tells whether all of some types may stand in an expression.
func allTypes(l []api.Shape) bool {
	for _, s := range l {
		if shape.Check(s) != api.OK {
			return false
		}
		for parts := []api.Shape{s}; len(parts) > 0; parts = parts[1:] {
			if parts[0].Kind == 10 {
				return false
			}
			parts = append(parts, parts[0].Parts...)
		}
	}
	return true
}

// modelFits tells whether a part fits, line by line as the chapter's table has them.
func modelFits(t api.Term) bool {
	if t.At < 0 {
		return false
	}
	names, vars, types, parts := len(t.Names), len(t.Vars), len(t.Shapes), len(t.Parts)
	none := func(l ...int) bool { return slices.Max(l) == 0 && slices.Min(l) == 0 }
	of, name := len(t.Of), len(t.Name)
	switch t.Kind {
	case 1:
		return none(of, name, names, vars, types, parts) && t.N >= 0 && t.N <= 999_999_999_999_999
	case 2:
		return none(of, t.N, names, vars, types, parts) && utf8.ValidString(t.Name) && formText.MatchString(t.Name)
	case 3, 4:
		return none(of, name, t.N, names, vars, types, parts)
	case 5:
		return none(t.N, names, vars, types, parts) && isName(t.Name) && (of == 0 || isName(t.Of))
	case 6:
		return none(of, name, t.N, vars) && allNames(t.Names) && noTwo(t.Names) && types == names && allTypes(t.Shapes) && parts == 1
	case 7:
		return none(of, name, t.N, names, vars, types) && parts >= 1
	case 8:
		return none(of, name, t.N, vars, types) && allNames(t.Names) && noTwo(t.Names) && parts == names
	case 9, 10:
		return none(of, t.N, names, vars, types) && isName(t.Name) && parts == 1
	case 11:
		return none(of, name, t.N, names, vars) && types == 1 && allTypes(t.Shapes)
	case 12:
		return none(of, name, t.N, names, vars) && parts == 3 && types == 1 && allTypes(t.Shapes)
	case 13:
		return none(of, name, t.N) && allNames(t.Names) && noTwo(t.Names) && vars == names && allNames(t.Vars) && types == names+1 && allTypes(t.Shapes) && parts == names+1
	case 14:
		return none(of, t.N, names, vars, types) && isName(t.Name) && parts == 2
	case 15:
		return none(of, name, t.N, names, vars) && parts == 1 && types == 1 && allTypes(t.Shapes)
	case 16, 17:
		return none(of, t.N, names, vars, types) && formUpper.MatchString(t.Name) && parts == 1
	}
	return false
}

// modelParts are all parts of an expression that is no greater than a test can hold, the outermost ones first, and how many levels it has.
func modelParts(t api.Term) ([]api.Term, int) {
	var all []api.Term
	levels := 0
	for level := []api.Term{t}; len(level) > 0; levels++ {
		all = append(all, level...)
		var next []api.Term
		for _, part := range level {
			next = append(next, part.Parts...)
		}
		level = next
	}
	return all, levels
}

func modelCheck(t api.Term) api.Errno {
	parts, levels := modelParts(t)
	switch {
	case len(parts) > 4096:
		return api.ErrBig
	case levels > 40:
		return api.ErrDeep
	case slices.ContainsFunc(parts, func(part api.Term) bool { return !modelFits(part) }):
		return api.ErrTerm
	}
	return api.OK
}

// modelBare makes an expression anew without its places, its empty lists nil.
func modelBare(t api.Term) api.Term {
	bare := api.Term{Kind: t.Kind, Of: t.Of, Name: t.Name, N: t.N}
	bare.Names, bare.Vars = append(bare.Names, t.Names...), append(bare.Vars, t.Vars...)
	for _, s := range t.Shapes {
		bare.Shapes = append(bare.Shapes, modelType(s))
	}
	for _, part := range t.Parts {
		bare.Parts = append(bare.Parts, modelBare(part))
	}
	return bare
}

// modelType makes a type anew, its empty lists nil.
func modelType(s api.Shape) api.Shape {
	other := api.Shape{Kind: s.Kind, Of: s.Of, Name: s.Name}
	other.Names = append(other.Names, s.Names...)
	for _, part := range s.Parts {
		other.Parts = append(other.Parts, modelType(part))
	}
	return other
}

// modelText writes an expression that may be: the chapter's lines, whose lists are joined.
func modelText(t api.Term) string {
	var parts, operands, types []string
	for _, part := range t.Parts {
		text := modelText(part)
		parts = append(parts, text)
		if slices.Contains([]int{api.TmInt, api.TmFun, api.TmList, api.TmIf, api.TmMatch, api.TmLet}, part.Kind) {
			text = fmt.Sprintf("(%s)", text)
		}
		operands = append(operands, text)
	}
	for _, s := range t.Shapes {
		text, _ := shape.Show(s)
		types = append(types, text)
	}
	var each []string
	for i, name := range t.Names {
		switch t.Kind {
		case api.TmFun:
			each = append(each, fmt.Sprintf("%s: %s", name, types[i]))
		case api.TmRecord:
			each = append(each, fmt.Sprintf("%s = %s", name, parts[i]))
		case api.TmMatch:
			each = append(each, fmt.Sprintf("%s(%s: %s) -> %s", name, t.Vars[i], types[i], parts[i+1]))
		}
	}
	switch t.Kind {
	case api.TmInt:
		return fmt.Sprint(t.N)
	case api.TmText:
		return modelQuote(t.Name)
	case api.TmTrue:
		return "true"
	case api.TmFalse:
		return "false"
	case api.TmVar:
		return strings.TrimPrefix(t.Of+"/"+t.Name, "/")
	case api.TmFun:
		return fmt.Sprintf("fun (%s) -> %s", strings.Join(each, ", "), parts[0])
	case api.TmCall:
		return fmt.Sprintf("%s(%s)", operands[0], strings.Join(parts[1:], ", "))
	case api.TmRecord:
		return fmt.Sprintf("{%s}", strings.Join(each, ", "))
	case api.TmField:
		return fmt.Sprintf("%s.%s", operands[0], t.Name)
	case api.TmCase:
		return fmt.Sprintf("@%s(%s)", t.Name, parts[0])
	case api.TmList:
		return fmt.Sprintf("[%s] of %s", strings.Join(parts, ", "), types[0])
	case api.TmIf:
		return fmt.Sprintf("if %s then %s else %s as %s", parts[0], parts[1], parts[2], types[0])
	case api.TmMatch:
		return fmt.Sprintf("case %s of {%s} as %s", parts[0], strings.Join(each, " | "), types[len(types)-1])
	case api.TmLet:
		return fmt.Sprintf("let %s = %s in %s", t.Name, parts[0], parts[1])
	case api.TmAs:
		return fmt.Sprintf("(%s as %s)", parts[0], types[0])
	case api.TmNew:
		return fmt.Sprintf("new %s(%s)", t.Name, parts[0])
	case api.TmRaw:
		return fmt.Sprintf("raw %s(%s)", t.Name, parts[0])
	}
	return ""
}

// modelQuote writes a text between quotes.
func modelQuote(s string) string {
	return `"` + strings.NewReplacer("\n", `\n`, "\t", `\t`, `"`, `\"`, `\`, `\\`).Replace(s) + `"`
}
