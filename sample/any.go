package sample

import "pandect/api"

// Pick picks a number below another one, as Intn of a random source does.
type Pick func(n int) int

// fewNames are names, not in the order of texts.
func fewNames() []string { return []string{"b", "aB", "a", "ab", "a_"} }

// mixed are the few names in any order.
func (pick Pick) mixed() []string {
	l := fewNames()
	for i := range l {
		j := i + pick(len(l)-i)
		l[i], l[j] = l[j], l[i]
	}
	return l
}

// Leaf picks a type without parts.
func (pick Pick) Leaf() api.Shape {
	l := []api.Shape{{Kind: api.ShInt}, {Kind: api.ShInt}, {Kind: api.ShBool}, {Kind: api.ShText}, {Kind: api.ShAny}, {Kind: api.ShName, Name: "K"}, {Kind: api.ShName, Of: "q", Name: "K"}, {Kind: api.ShOpaque, Of: "q", Name: "K"}, {Kind: api.ShRecord}, {Kind: api.ShVariant}}
	return l[pick(len(l))]
}

// Any makes a type of few names, of so many levels above the leaves at most. It may be, if these are not many.
func (pick Pick) Any(deep int) api.Shape {
	if deep == 0 {
		return pick.Leaf()
	}
	switch pick(6) {
	case 0:
		return pick.Leaf()
	case 1:
		return List(pick.Any(deep - 1))
	case 2:
		s := Fun()
		for range 1 + pick(3) {
			s.Parts = append(s.Parts, pick.Any(deep-1))
		}
		return s
	}
	s := api.Shape{Kind: api.ShRecord + pick(2)}
	for _, name := range pick.mixed()[:pick(5)] {
		s.Names, s.Parts = append(s.Names, name), append(s.Parts, pick.Any(deep-1))
	}
	return s
}

// Like makes a type that is another one but for something here and there: a name less or more, names in another order, seldom a whole part.
func (pick Pick) Like(s api.Shape) api.Shape {
	if pick(24) == 0 {
		return pick.Any(1)
	}
	other := api.Shape{Kind: s.Kind, Of: s.Of, Name: s.Name}
	for _, part := range s.Parts {
		other.Parts = append(other.Parts, pick.Like(part))
	}
	if s.Kind != api.ShRecord && s.Kind != api.ShVariant {
		return other
	}
	parts := Fields(Record(s.Names, other.Parts...))
	other.Parts = nil
	for _, name := range pick.mixed() {
		part, ok := parts[name]
		if changed := pick(5) == 0; ok == changed {
			continue
		}
		if !ok {
			part = pick.Any(1)
		}
		other.Names, other.Parts = append(other.Names, name), append(other.Parts, part)
	}
	return other
}
