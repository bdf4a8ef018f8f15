package shape

import "pandect/api"

// counter counts the parts of a type, up to a number.
type counter struct{ parts, most int }

// measure tells how many parts and how many levels a type has; of one that has more than so many parts, one more than these, and 0.
func measure(s api.Shape, most int) (parts, levels int) {
	defer func() {
		if recover() != nil {
			parts, levels = most+1, 0
		}
	}()
	c := counter{most: most}
	levels = c.levels(s)
	return c.parts, levels
}

// levels tells how many levels a type has. It gives up by panic, from however deep it is, as a list of parts may stand in itself.
func (c *counter) levels(s api.Shape) int {
	if c.parts == c.most {
		panic(api.ErrBig)
	}
	c.parts++
	deepest := 0
	for _, part := range s.Parts {
		deepest = max(deepest, c.levels(part))
	}
	return deepest + 1
}
