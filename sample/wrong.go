package sample

import (
	"math"

	"pandect/api"
)

// Wrong are types that may not be, of every kind of fault, all of which have an end.
func Wrong() []api.Shape {
	i := Int()
	l := []api.Shape{Record([]string{"a", "a"}, i, i), Record([]string{"a"}), Record(nil, i), Record([]string{"A"}, i), Record([]string{"let"}, i), Variant([]string{"b", "a", "b"}, i, i, i), Variant([]string{""}, i), Variant([]string{"a", "b"}, i), Fun(), {Kind: api.ShList}, {Kind: api.ShList, Parts: []api.Shape{i, i}}}
	for _, kind := range []int{0, 11, -1, 1<<32 + 1, 1<<32 + 6, math.MaxInt, math.MinInt} {
		l = append(l, api.Shape{Kind: kind})
	}
	for kind := api.ShInt; kind <= api.ShFun; kind++ {
		l = append(l, api.Shape{Kind: kind, Name: "K"}, api.Shape{Kind: kind, Of: "q"})
	}
	for _, kind := range []int{api.ShName, api.ShOpaque} {
		for _, name := range [][2]string{{"", ""}, {"q", ""}, {"", "k"}, {"q", "k"}, {"Q", "K"}, {"let", "K"}, {"", "Int"}} {
			l = append(l, api.Shape{Kind: kind, Of: name[0], Name: name[1]})
		}
		l = append(l, api.Shape{Kind: kind, Of: "q", Name: "K", Parts: []api.Shape{i}})
	}
	return append(l, Numbered(api.ShRecord, 1000, 400, i), Within(i, 40), Within(i, 400))
}

// Endless are types that stand in themselves.
func Endless() []api.Shape {
	tree := Record([]string{"a", "b"}, Int(), Int())
	tree.Parts[0], tree.Parts[1] = tree, tree
	ladder := List(Int())
	ladder.Parts[0] = ladder
	return []api.Shape{tree, ladder}
}
