package shape

import (
	"strings"

	"pandect/api"
)

// written tells the text of a type that may be.
func written(s api.Shape) string {
	switch s.Kind {
	case api.ShList:
		return "[" + written(s.Parts[0]) + "]"
	case api.ShRecord:
		return "{" + strings.Join(writtenFields(s), ", ") + "}"
	case api.ShVariant:
		return "<" + strings.Join(writtenFields(s), " | ") + ">"
	case api.ShFun:
		last := len(s.Parts) - 1
		return "(" + strings.Join(writtenEach(s.Parts[:last]), ", ") + ") -> " + written(s.Parts[last])
	case api.ShName, api.ShOpaque:
		return writtenName(s)
	}
	return words[s.Kind]
}

// writtenEach tells the texts of types.
func writtenEach(l []api.Shape) []string {
	texts := make([]string, len(l))
	for i, s := range l {
		texts[i] = written(s)
	}
	return texts
}

// writtenFields tells the texts of fields or cases.
func writtenFields(s api.Shape) []string {
	texts := writtenEach(s.Parts)
	for i, name := range s.Names {
		texts[i] = name + ": " + texts[i]
	}
	return texts
}

// writtenName tells the text of the name of a type.
func writtenName(s api.Shape) string {
	if s.Of == "" {
		return s.Name
	}
	return s.Of + "/" + s.Name
}
