package module

import (
	"strings"

	"pandect/api"
	"pandect/ranges"
	"pandect/semver"
	"pandect/shape"
	"pandect/terms"
)

// What stands between words, between exports, and behind each line.
const (
	betweenWords   = " "
	betweenExports = ", "
	lineEnd        = "\n"
)

// written tells the text of a module that may be, and so may all that stands in it.
func written(m api.Module) string {
	lines := []string{line("module", m.Name)}
	for _, one := range m.Imports {
		lines = append(lines, writtenImport(one))
	}
	for _, d := range m.Decls {
		lines = append(lines, writtenDecl(d))
	}
	lines = append(lines, line("export", "("+strings.Join(m.Exports, betweenExports)+")"))
	return strings.Join(lines, "")
}

// writtenImport tells the line of an import.
func writtenImport(one api.Import) string {
	pin, _ := semver.Show(one.Pin)
	bounds, _ := ranges.Show(one.Range)
	return line("import", one.Name, "pin", pin, "range", bounds)
}

// writtenDecl tells the line of a declaration.
func writtenDecl(d api.Decl) string {
	if d.Kind == api.DeLet {
		text, _ := terms.Show(d.Term)
		return line("let", d.Name, "=", text)
	}
	text, _ := shape.Show(d.Shape)
	if d.Kind == api.DeOpaque {
		return line("opaque", d.Name, "=", text)
	}
	return line("type", d.Name, "=", text)
}

// line tells the line of some words.
func line(words ...string) string { return strings.Join(words, betweenWords) + lineEnd }
