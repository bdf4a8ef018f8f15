package terms

import (
	"strconv"
	"strings"
	"unicode/utf8"

	"pandect/api"
	"pandect/lex"
	"pandect/shape"
)

// What stands between parts, and between the ways of a case.
const (
	betweenParts = ", "
	betweenWays  = " | "
)

// quote is what a quoted text stands between.
const quote = `"`

// maxPiece is how many bytes of a text lex's Show writes at once, whichever they are: each may take two, and the quotes stand around them.
const maxPiece = (api.MaxText - 2*len(quote)) / 2

// written tells the text of an expression that may be.
func written(t api.Term) string {
	switch t.Kind {
	case api.TmInt:
		return strconv.Itoa(t.N)
	case api.TmText:
		return quoted(t.Name)
	case api.TmTrue:
		return "true"
	case api.TmFalse:
		return "false"
	case api.TmVar:
		return writtenName(t)
	case api.TmFun:
		return "fun (" + writtenBinds(t.Names, t.Shapes) + ") -> " + written(t.Parts[0])
	case api.TmCall:
		return operand(t.Parts[0]) + "(" + writtenParts(t.Parts[1:]) + ")"
	case api.TmRecord:
		return "{" + writtenFields(t) + "}"
	case api.TmField:
		return operand(t.Parts[0]) + "." + t.Name
	case api.TmCase:
		return "@" + t.Name + "(" + written(t.Parts[0]) + ")"
	case api.TmList:
		return "[" + writtenParts(t.Parts) + "] of " + writtenType(t.Shapes[0])
	case api.TmIf:
		return "if " + written(t.Parts[0]) + " then " + written(t.Parts[1]) + " else " + written(t.Parts[2]) + " as " + writtenType(t.Shapes[0])
	case api.TmMatch:
		return "case " + written(t.Parts[0]) + " of {" + writtenWays(t) + "} as " + writtenType(t.Shapes[len(t.Names)])
	case api.TmLet:
		return "let " + t.Name + " = " + written(t.Parts[0]) + " in " + written(t.Parts[1])
	case api.TmAs:
		return "(" + written(t.Parts[0]) + " as " + writtenType(t.Shapes[0]) + ")"
	case api.TmNew:
		return "new " + t.Name + "(" + written(t.Parts[0]) + ")"
	}
	return "raw " + t.Name + "(" + written(t.Parts[0]) + ")"
}

// operand tells the text of a part that more of the same expression stands right behind.
func operand(t api.Term) string {
	switch t.Kind {
	case api.TmInt, api.TmFun, api.TmList, api.TmIf, api.TmMatch, api.TmLet:
		return "(" + written(t) + ")"
	}
	return written(t)
}

// writtenName tells the text of the name of a value.
func writtenName(t api.Term) string {
	if t.Of == "" {
		return t.Name
	}
	return t.Of + "/" + t.Name
}

// writtenParts tells the texts of parts.
func writtenParts(l []api.Term) string {
	texts := make([]string, len(l))
	for i, t := range l {
		texts[i] = written(t)
	}
	return strings.Join(texts, betweenParts)
}

// writtenFields tells the texts of the fields of a record.
func writtenFields(t api.Term) string {
	texts := make([]string, len(t.Names))
	for i, name := range t.Names {
		texts[i] = name + " = " + written(t.Parts[i])
	}
	return strings.Join(texts, betweenParts)
}

// writtenWays tells the texts of the ways of a case.
func writtenWays(t api.Term) string {
	texts := make([]string, len(t.Names))
	for i, name := range t.Names {
		texts[i] = name + "(" + writtenBind(t.Vars[i], t.Shapes[i]) + ") -> " + written(t.Parts[i+1])
	}
	return strings.Join(texts, betweenWays)
}

// writtenBinds tells the texts of names with their types.
func writtenBinds(names []string, l []api.Shape) string {
	texts := make([]string, len(names))
	for i, name := range names {
		texts[i] = writtenBind(name, l[i])
	}
	return strings.Join(texts, betweenParts)
}

// writtenBind tells the text of a name with its type.
func writtenBind(name string, s api.Shape) string { return name + ": " + writtenType(s) }

// writtenType tells the text of a type that may be.
func writtenType(s api.Shape) string {
	text, _ := shape.Show(s)
	return text
}

// quoted tells a text as lex's Show quotes it. It goes piece by piece, as lex's Show takes none that is longer than a source, but an expression may have one.
func quoted(s string) string {
	var b strings.Builder
	b.WriteString(quote)
	for s != "" {
		n := pieceOf(s)
		text, _ := lex.Show(api.Token{Kind: api.TokText, Text: s[:n]})
		b.WriteString(text[len(quote) : len(text)-len(quote)])
		s = s[n:]
	}
	b.WriteString(quote)
	return b.String()
}

// pieceOf tells how many bytes the first piece of a text of code points' bytes has, which ends with whole ones.
func pieceOf(s string) int {
	if len(s) <= maxPiece {
		return len(s)
	}
	n := maxPiece
	for !utf8.RuneStart(s[n]) {
		n--
	}
	return n
}
