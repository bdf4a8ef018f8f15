package iface_test

import (
	"slices"
	"strings"

	"pandect/api"
	"pandect/lex"
	"pandect/octets"
	"pandect/sample"
	"pandect/shape"
)

// modelItem tells by the chapter's words whether an item may be.
func modelItem(item api.Item) bool {
	s := item.Shape
	upper := lex.Upper(item.Name) && !slices.Contains([]string{"Int", "Bool", "Text", "Any"}, item.Name)
	if item.Kind == api.DeOpaque {
		return upper && s.Kind == 0 && s.Of+s.Name == "" && len(s.Names)+len(s.Parts) == 0
	}
	if item.Kind == api.DeType && upper || item.Kind == api.DeLet && lex.Name(item.Name) {
		return shape.Closed(s) && sample.Key(s) == sample.Key(shape.Sort(s))
	}
	return false
}

// modelCheck tells by the chapter's words whether an interface may be.
func modelCheck(l []api.Item) bool {
	for i := range l {
		for j := range i {
			if l[j].Name >= l[i].Name {
				return false
			}
		}
	}
	return len(l) <= 60 && !slices.ContainsFunc(l, func(item api.Item) bool { return !modelItem(item) })
}

// modelType is the bytes of a type.
func modelType(s api.Shape) string {
	text := octets.Number(uint64(s.Kind)) + octets.Text(s.Of) + octets.Text(s.Name) + octets.List(s.Names...) + octets.Number(uint64(len(s.Parts)))
	for _, part := range s.Parts {
		text += modelType(part)
	}
	return text
}

// modelEncode is the bytes of items, also of some that may not be.
func modelEncode(l []api.Item) string {
	text := octets.Number(uint64(len(l)))
	for _, item := range l {
		text += octets.Number(uint64(item.Kind)) + octets.Text(item.Name)
		if item.Kind != api.DeOpaque {
			text += modelType(item.Shape)
		}
	}
	return text
}

// modelText is the text of a type that may be.
func modelText(s api.Shape) string {
	var parts []string
	for i, part := range s.Parts {
		name := ""
		if len(s.Names) > 0 {
			name = s.Names[i] + ": "
		}
		parts = append(parts, name+modelText(part))
	}
	switch s.Kind {
	case api.ShInt, api.ShBool, api.ShText, api.ShAny:
		return []string{"Int", "Bool", "Text", "Any"}[s.Kind-1]
	case api.ShList:
		return "[" + parts[0] + "]"
	case api.ShRecord:
		return "{" + strings.Join(parts, ", ") + "}"
	case api.ShVariant:
		return "<" + strings.Join(parts, " | ") + ">"
	case api.ShFun:
		last := len(parts) - 1
		return "(" + strings.Join(parts[:last], ", ") + ") -> " + parts[last]
	}
	return s.Of + "/" + s.Name
}

// modelShow is the text of an interface that may be.
func modelShow(l []api.Item) string {
	text := ""
	for _, item := range l {
		text += map[int]string{api.DeType: "type ", api.DeOpaque: "opaque ", api.DeLet: "let "}[item.Kind] + item.Name
		text += map[int]string{api.DeType: " = ", api.DeLet: ": "}[item.Kind]
		if item.Kind != api.DeOpaque {
			text += modelText(item.Shape)
		}
		text += "\n"
	}
	return text
}

// giveUp is what the model's reading panics with.
type giveUp struct{}

// must is a thing that was taken and the place behind it.
func must[T any](one T, end int, err api.Errno) (T, int) {
	if err != api.OK {
		panic(giveUp{})
	}
	return one, end
}

// modelTakeType is the type that stands from a place on, and the place behind it.
func modelTakeType(s string, at, level int) (api.Shape, int) {
	if level > 500 {
		panic(giveUp{})
	}
	var one api.Shape
	var kind, parts uint64
	kind, at = must(octets.TakeNumber(s, at))
	one.Kind = int(kind)
	one.Of, at = must(octets.TakeText(s, at))
	one.Name, at = must(octets.TakeText(s, at))
	one.Names, at = must(octets.TakeList(s, at))
	parts, at = must(octets.TakeNumber(s, at))
	for range parts {
		var part api.Shape
		part, at = modelTakeType(s, at, level+1)
		one.Parts = append(one.Parts, part)
	}
	return one, at
}

// modelTake are the items that bytes say, whatever they are.
func modelTake(s string) (l []api.Item, ok bool) {
	defer func() {
		switch r := recover(); r {
		case nil:
		case giveUp{}:
			l, ok = nil, false
		default:
			panic(r)
		}
	}()
	n, at := must(octets.TakeNumber(s, 0))
	for range n {
		var item api.Item
		var kind uint64
		kind, at = must(octets.TakeNumber(s, at))
		item.Kind = int(kind)
		item.Name, at = must(octets.TakeText(s, at))
		if item.Kind != api.DeOpaque {
			item.Shape, at = modelTakeType(s, at, 1)
		}
		l = append(l, item)
	}
	return l, true
}

// modelDecode is the interface that may be and has those bytes.
func modelDecode(s string) ([]api.Item, bool) {
	l, ok := modelTake(s)
	if !ok || !modelCheck(l) || modelEncode(l) != s {
		return nil, false
	}
	return l, true
}
