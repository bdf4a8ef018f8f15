package shape

import (
	"slices"

	"pandect/api"
)

// enough is how many parts a type may have for each list to be copied wherever it stands. Of a greater type each list is copied once: it may stand in itself, or in so many places that no memory holds a copy for each.
const enough = 1 << 16

// place is where a list of parts stands in memory.
type place struct {
	first *api.Shape
	parts int
}

// copier copies a type.
type copier struct {
	open []*api.Shape          // parts that are copied, but for their lists
	made map[place][]api.Shape // the copies of lists, if each is copied once
}

// copied tells a type in new memory.
func copied(s api.Shape) api.Shape {
	c := copier{open: []*api.Shape{&s}}
	if parts, _ := measure(s, enough); parts > enough {
		c.made = map[place][]api.Shape{}
	}
	for len(c.open) > 0 {
		last := len(c.open) - 1
		part := c.open[last]
		c.open = c.open[:last]
		part.Names = slices.Clone(part.Names)
		part.Parts = c.list(part.Parts)
	}
	return s
}

// list tells the copy of a list of parts.
func (c *copier) list(l []api.Shape) []api.Shape {
	if len(l) == 0 {
		return nil
	}
	at := place{first: &l[0], parts: len(l)}
	if made, ok := c.made[at]; ok {
		return made
	}
	made := slices.Clone(l)
	if c.made != nil {
		c.made[at] = made
	}
	for i := range made {
		c.open = append(c.open, &made[i])
	}
	return made
}
