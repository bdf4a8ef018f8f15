package check

import (
	"iter"

	"pandect/api"
)

// checker checks what stands in a module, in the environment so far.
type checker struct {
	environment
	// faces are the interfaces of packages by their names.
	faces map[string][]api.Item
}

// checkerOf is the checker of a module of that name, of which nothing is checked so far.
func checkerOf(self string, deps []api.Dep) *checker {
	c := checker{environment: bare(self), faces: map[string][]api.Item{}}
	for _, dep := range deps {
		c.faces[dep.Name] = dep.Items
	}
	return &c
}

// imported takes in the interfaces of imports, or tells the fault of the first that has none.
func (c *checker) imported(imports []api.Import) api.Fault {
	for _, one := range imports {
		items, ok := c.faces[one.Name]
		if !ok {
			return api.Fault{Err: api.ErrUnknown, At: one.At}
		}
		c.takeIn(one.Name, items)
	}
	return api.Fault{}
}

// declared goes through declarations in order, and tells what each is as an item, or its fault, up to where whoever asks leaves off.
func (c *checker) declared(decls []api.Decl) iter.Seq2[api.Item, api.Fault] {
	return func(yield func(api.Item, api.Fault) bool) {
		for _, d := range decls {
			if !yield(c.declare(d)) {
				return
			}
		}
	}
}
