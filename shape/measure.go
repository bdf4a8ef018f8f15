package shape

import "pandect/api"

// counter counts the parts of a type, as many as may be.
type counter struct{ parts int }

// measure tells how many parts and how many levels a type has; of one that has more parts than may be, one more than these, and 0.
func measure(s api.Shape) (parts, levels int) {
	defer func() {
		if recover() != nil {
			parts, levels = api.MaxShape+1, 0
		}
	}()
	var c counter
	levels = c.levels(s)
	return c.parts, levels
}

// levels tells how many levels a type has. It gives up by panic, from however deep it is, as a list of parts may stand in itself.
func (c *counter) levels(s api.Shape) int {
	if c.parts == api.MaxShape {
		panic(api.ErrBig)
	}
	c.parts++
	deepest := 0
	for _, part := range s.Parts {
		deepest = max(deepest, c.levels(part))
	}
	return deepest + 1
}
