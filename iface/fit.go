package iface

import (
	"slices"

	"pandect/api"
	"pandect/lex"
	"pandect/shape"
)

// fits tells whether an item may be, whatever stands beside it.
func fits(item api.Item) bool {
	switch item.Kind {
	case api.DeType:
		return isTypeName(item.Name) && isSettled(item.Shape)
	case api.DeOpaque:
		return isTypeName(item.Name) && isEmpty(item.Shape)
	case api.DeLet:
		return lex.Name(item.Name) && isSettled(item.Shape)
	}
	return false
}

// isTypeName tells whether an item that is a type may have that name: one by which a type may be spoken of without a package.
func isTypeName(name string) bool {
	return shape.Check(api.Shape{Kind: api.ShName, Name: name}) == api.OK
}

// isSettled tells whether a type is closed and in order.
func isSettled(s api.Shape) bool { return shape.Closed(s) && isSorted(s) }

// isSorted tells whether the names in each part of a type that may be are in the order that shape's Sort puts them in.
func isSorted(s api.Shape) bool {
	return slices.IsSorted(s.Names) && !slices.ContainsFunc(s.Parts, func(part api.Shape) bool { return !isSorted(part) })
}

// isEmpty tells whether nothing stands in a type.
func isEmpty(s api.Shape) bool {
	return s.Kind == 0 && s.Of == "" && s.Name == "" && len(s.Names) == 0 && len(s.Parts) == 0
}
