package iface

import (
	"strings"

	"pandect/api"
	"pandect/octets"
	"pandect/shape"
)

// nowhere is the place behind what can't be taken: no byte stands there, so that nothing can be taken from then on.
const nowhere = -1

// laid tells the bytes of an interface that may be.
func laid(l []api.Item) string {
	var b strings.Builder
	b.WriteString(octets.Number(uint64(len(l))))
	for _, item := range l {
		b.WriteString(octets.Number(uint64(item.Kind)) + octets.Text(item.Name))
		if item.Kind != api.DeOpaque {
			layType(&b, item.Shape)
		}
	}
	return b.String()
}

// layType lays a type that may be.
func layType(b *strings.Builder, s api.Shape) {
	b.WriteString(octets.Number(uint64(s.Kind)) + octets.Text(s.Of) + octets.Text(s.Name))
	b.WriteString(octets.List(s.Names...) + octets.Number(uint64(len(s.Parts))))
	for _, part := range s.Parts {
		layType(b, part)
	}
}

// taken tells the items that bytes begin with, and the place behind them, or nowhere. They may still be no interface; but no number among them is above what an interface can have, so that neither memory nor calls run out, whatever the bytes say.
func taken(s string) ([]api.Item, int) {
	at := 0
	number := func(most int) int {
		n, end, err := octets.TakeNumber(s, at)
		if err != api.OK || n > uint64(most) {
			n, end = 0, nowhere
		}
		at = end
		return int(n)
	}
	text := func() string {
		one, end, err := octets.TakeText(s, at)
		if err != api.OK {
			end = nowhere
		}
		at = end
		return one
	}
	// left is how many parts more the type may have that is being taken.
	left := 0
	var part func() api.Shape
	part = func() api.Shape {
		one := api.Shape{Kind: number(api.ShOpaque), Of: text(), Name: text()}
		for range number(left) {
			one.Names = append(one.Names, text())
		}
		parts := number(left)
		left -= parts
		for range parts {
			one.Parts = append(one.Parts, part())
		}
		return one
	}
	var l []api.Item
	for range number(api.MaxItems) {
		item := api.Item{Kind: number(api.DeLet), Name: text()}
		if item.Kind != api.DeOpaque {
			left = api.MaxShape - 1
			item.Shape = part()
		}
		l = append(l, item)
	}
	return l, at
}

// line tells the text of an item that may be.
func line(item api.Item) string {
	if item.Kind == api.DeOpaque {
		return "opaque " + item.Name
	}
	// The type may be, so that there is no error.
	text, _ := shape.Show(item.Shape)
	if item.Kind == api.DeType {
		return "type " + item.Name + " = " + text
	}
	return "let " + item.Name + ": " + text
}
