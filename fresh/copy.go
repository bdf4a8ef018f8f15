package fresh

import "slices"

// The bound up to which each list is copied wherever it stands: as many levels as the document's bound lets parts be nested, and about as many parts as it lets an answer hold. Of a greater tree each list of parts is copied once: it may stand in itself, or in so many places that no memory holds a copy for each.
const (
	mostLevels = 1 << 16
	mostParts  = 1 << 24
)

// place is where a list of parts stands in memory.
type place[T any] struct {
	first *T
	parts int
}

// copied tells a tree in new memory. Of a part of it list tells where its parts stand, and own puts its other lists into new memory.
func copied[T any](t T, list func(*T) *[]T, own func(*T)) T {
	var made map[place[T]][]T
	if c := (counter[T]{list: list}); !c.holds(&t, 1) {
		made = map[place[T]][]T{}
	}
	// The parts that are copied but for their lists are kept in a list: a tree's levels may be too many to be gone down by calls.
	for open := []*T{&t}; len(open) > 0; {
		last := len(open) - 1
		part := open[last]
		open = open[:last]
		own(part)
		l := list(part)
		if !renew(l, made) {
			continue
		}
		for i := range *l {
			open = append(open, &(*l)[i])
		}
	}
	return t
}

// renew puts a copy in the place of a list of parts, and tells whether no other place has it: where made is none each copy is new, else each list has one.
func renew[T any](l *[]T, made map[place[T]][]T) bool {
	if len(*l) == 0 {
		*l = slices.Clone(*l)
		return false
	}
	at := place[T]{first: &(*l)[0], parts: len(*l)}
	if one, ok := made[at]; ok {
		*l = one
		return false
	}
	*l = slices.Clone(*l)
	if made != nil {
		made[at] = *l
	}
	return true
}

// counter counts the parts of a tree.
type counter[T any] struct {
	list  func(*T) *[]T
	parts int
}

// holds counts the parts of a part at that level, and tells whether the tree is within the bound as far as it is counted.
func (c *counter[T]) holds(part *T, level int) bool {
	c.parts++
	if c.parts > mostParts || level > mostLevels {
		return false
	}
	l := *c.list(part)
	for i := range l {
		if !c.holds(&l[i], level+1) {
			return false
		}
	}
	return true
}
