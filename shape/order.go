package shape

import (
	"sort"

	"pandect/api"
)

// fields are the fields of a record, or the cases of a variant: they are put in order with their parts.
type fields api.Shape

func (f fields) Len() int { return len(f.Names) }

func (f fields) Less(i, j int) bool { return f.Names[i] < f.Names[j] }

func (f fields) Swap(i, j int) {
	f.Names[i], f.Names[j] = f.Names[j], f.Names[i]
	f.Parts[i], f.Parts[j] = f.Parts[j], f.Parts[i]
}

// sortWithin puts the fields and cases of a type that may be in order, in its own memory.
func sortWithin(s api.Shape) {
	for _, part := range s.Parts {
		sortWithin(part)
	}
	// A part of another kind has no Names, so that nothing of it is moved.
	sort.Sort(fields(s))
}
