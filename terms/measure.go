package terms

import "pandect/api"

// counter counts the parts of an expression, up to one more than may be.
type counter struct{ parts int }

// measure tells how many parts and how many levels an expression has; of one that has more parts than may be, one more than these, and any levels.
func measure(t api.Term) (parts, levels int) {
	var c counter
	levels = c.levels(t)
	return c.parts, levels
}

// levels tells how many levels an expression has. It goes no further where too many parts are counted, as a list of parts may stand in itself.
func (c *counter) levels(t api.Term) int {
	c.parts++
	deepest := 0
	for _, part := range t.Parts {
		if c.parts > api.MaxText {
			break
		}
		deepest = max(deepest, c.levels(part))
	}
	return deepest + 1
}
