package sample

import (
	"strings"

	"pandect/api"
	"pandect/parse"
)

// Face is an interface of lines, each an item: a word as in a source (type, opaque, let), the name and, but of an opaque type, the type. All names of packages are opaque types in it.
func Face(lines ...string) []api.Item {
	kinds := map[string]int{"type": api.DeType, "opaque": api.DeOpaque, "let": api.DeLet}
	var items []api.Item
	for _, line := range lines {
		word, rest, _ := strings.Cut(line, " ")
		name, text, typed := strings.Cut(rest, " ")
		item := api.Item{Kind: kinds[word], Name: name}
		if typed {
			item.Shape = veiled(right(text, parse.TypeText), func(of string) bool { return of != "" })
		}
		items = append(items, item)
	}
	return items
}

// Face makes an interface at random, one that may be.
func (m Maker) Face() []api.Item {
	var items []api.Item
	for _, name := range []string{"A", "B", "Box", "K", "Pair", "a", "aB", "a_", "b", "f", "key", "x1"} {
		item := api.Item{Kind: api.DeLet, Name: name}
		if name[0] < 'a' {
			item.Kind = api.DeType + m.Pick(2)
		}
		if item.Kind != api.DeOpaque {
			item.Shape = m.Type(m.Pick(4))
		}
		if m.Pick(2) == 0 {
			items = append(items, item)
		}
	}
	return items
}
