package sample

import (
	"slices"

	"pandect/api"
	"pandect/expand"
	"pandect/gradual"
)

// Placed is an expression, copied, whose parts have the places from a first one on, each another one.
func Placed(t api.Term, first int) api.Term {
	t, _ = placed(t, first)
	return t
}

// placed is an expression with places from one on, and the place behind them.
func placed(t api.Term, at int) (api.Term, int) {
	t.At, at = at, at+1
	t.Parts = slices.Clone(t.Parts)
	for i, part := range t.Parts {
		t.Parts[i], at = placed(part, at)
	}
	return t, at
}

// World is an environment of module p with a value and a type of each kind, all of whose types are closed. The functions that are there always come from whoever asks.
func World(base []api.Bind) api.Env {
	env := api.Env{Self: "p", Values: slices.Clone(base)}
	for _, b := range [][3]string{{"", "Num", "Int"}, {"", "Pair", "{x: Int, y: Text}"}, {"q", "Opt", "<none: {} | some: Int>"}, {"q", "Dyn", "Any"}, {"q", "K", "own/K"}} {
		s := Type(b[2])
		if b[1] == "K" {
			s.Of = "q"
		}
		env.Types = append(env.Types, api.Bind{Of: b[0], Name: b[1], Shape: s})
	}
	for _, b := range [][2]string{{"K", "Int"}, {"Box", "{lines: [Text], n: Int}"}} {
		env.Types = append(env.Types, api.Bind{Name: b[0], Shape: api.Shape{Kind: api.ShOpaque, Of: "p", Name: b[0]}})
		env.Own = append(env.Own, api.Bind{Name: b[0], Shape: Type(b[1])})
	}
	for _, b := range [][3]string{{"q", "any", "q/Dyn"}, {"", "pair", "Pair"}, {"q", "opt", "q/Opt"}, {"", "key", "K"}, {"q", "key", "q/K"}, {"q", "make", "({}) -> q/K"}, {"", "each", "((Int) -> Int, [Int]) -> [Int]"}, {"q", "rows", "[{a: Int, b: q/Dyn}]"}, {"", "none", "() -> <>"}} {
		s, _ := expand.Resolve(Type(b[2]), env.Types)
		env.Values = append(env.Values, api.Bind{Of: b[0], Name: b[1], Shape: s})
	}
	return env
}

// Maker makes expressions at random, in an environment whose types are closed and whose opaque types have names.
type Maker struct {
	Pick Pick
	Env  api.Env
	// Slip says that one part in so many is of any type, not of the one that is asked for; 0 that none is.
	Slip int
}

// Type makes a closed type, of so many levels above the leaves at most.
func (m Maker) Type(deep int) api.Shape {
	s, err := expand.Resolve(m.spoken(m.Pick.Any(deep)), m.Env.Types)
	if err != api.OK {
		return Int()
	}
	return s
}

// spoken is a type in which any names of the environment stand in the places of names and of opaque types.
func (m Maker) spoken(s api.Shape) api.Shape {
	s.Parts = each(slices.Clone(s.Parts), m.spoken)
	switch l := m.Env.Types; {
	case s.Kind != api.ShName && s.Kind != api.ShOpaque:
		return s
	case len(l) == 0:
		return Int()
	default:
		b := l[m.Pick(len(l))]
		return api.Shape{Kind: api.ShName, Of: b.Of, Name: b.Name}
	}
}

// Lowered makes a type below a closed one, or above it.
func (m Maker) Lowered(s api.Shape, above bool) api.Shape {
	low := api.Shape{Kind: s.Kind, Of: s.Of, Name: s.Name}
	for i, part := range s.Parts {
		low.Parts = append(low.Parts, m.Lowered(part, above != (s.Kind == api.ShFun && i < len(s.Parts)-1)))
	}
	low.Names = slices.Clone(s.Names)
	switch {
	case s.Kind == api.ShRecord && !above || s.Kind == api.ShVariant && above:
		if name := []string{"b", "a", "none", "x", "more"}[m.Pick(5)]; !slices.Contains(low.Names, name) && m.Pick(2) == 0 {
			low.Names, low.Parts = append(low.Names, name), append(low.Parts, m.Type(1))
		}
	case s.Kind == api.ShRecord || s.Kind == api.ShVariant:
		if n := len(low.Names); n > 0 && m.Pick(2) == 0 {
			low.Names, low.Parts = low.Names[:n-1], low.Parts[:n-1]
		}
	}
	return low
}

// written is a closed type with names in the places of its opaque types, as in an expression.
func (m Maker) written(s api.Shape) api.Shape {
	s.Parts = slices.Clone(s.Parts)
	for i, part := range s.Parts {
		s.Parts[i] = m.written(part)
	}
	if s.Kind == api.ShOpaque {
		s.Kind = api.ShName
		if s.Of == m.Env.Self {
			s.Of = ""
		}
	}
	return s
}

// with is the maker of what stands where one more value is bound.
func (m Maker) with(name string, s api.Shape) Maker {
	m.Env.Values = append(slices.Clone(m.Env.Values), api.Bind{Name: name, Shape: s})
	return m
}

// variable picks a name of a value; names of others are among them.
func (m Maker) variable() string {
	l := []string{"x", "y", "z", "pair", "add"}
	return l[m.Pick(len(l))]
}

// Term makes an expression, most often of a type that is near a closed one, in which so many parts that are not needed stand within each other at most.
func (m Maker) Term(s api.Shape, deep int) api.Term {
	slips := m.Slip > 0 && m.Pick(m.Slip) == 0
	// Without an end to what may be of any type, types that are great would let expressions grow without one.
	switch {
	case deep <= 0 && (slips || s.Kind == api.ShAny):
		return api.Term{Kind: api.TmInt, N: m.Pick(1000)}
	case deep <= 0:
		return m.least(s, 0)
	case slips:
		s = m.Type(1)
	}
	deep--
	other := m.Type(1)
	switch m.Pick(14) {
	case 0, 1:
		return m.let(s, other, deep)
	case 2:
		return api.Term{Kind: api.TmIf, Shapes: []api.Shape{m.written(s)}, Parts: []api.Term{m.Term(Type("Bool"), deep), m.Term(s, deep), m.Term(s, deep)}}
	case 3, 4:
		return m.match(s, deep)
	case 5:
		return m.as(s, deep)
	case 6:
		return api.Term{Kind: api.TmCall, Parts: []api.Term{m.Term(Fun(other, s), deep), m.Term(other, deep)}}
	case 7:
		return m.field(s, other, deep)
	case 8, 9:
		return m.called(s, deep)
	case 10:
		return m.raw(s, deep)
	}
	return m.least(s, deep)
}

// as makes an expression of just that type.
func (m Maker) as(s api.Shape, deep int) api.Term {
	return api.Term{Kind: api.TmAs, Shapes: []api.Shape{m.written(s)}, Parts: []api.Term{m.Term(s, deep)}}
}

// let makes an expression behind a name's value.
func (m Maker) let(s, other api.Shape, deep int) api.Term {
	name := m.variable()
	return api.Term{Kind: api.TmLet, Name: name, Parts: []api.Term{m.as(other, deep), m.with(name, other).Term(s, deep)}}
}

// field makes a field of a record, which has another one.
func (m Maker) field(s, other api.Shape, deep int) api.Term {
	l := m.Pick.mixed()
	return api.Term{Kind: api.TmField, Name: l[0], Parts: []api.Term{m.Term(Record(l[:2], s, other), deep)}}
}

// match makes a choice by cases, of which there may be none.
func (m Maker) match(s api.Shape, deep int) api.Term {
	l := m.Pick.mixed()[:m.Pick(4)]
	t, by := api.Term{Kind: api.TmMatch, Names: l}, api.Shape{Kind: api.ShVariant, Names: l}
	t.Parts = []api.Term{{}}
	for range l {
		name, other := m.variable(), m.Type(1)
		t.Vars, t.Shapes = append(t.Vars, name), append(t.Shapes, m.written(other))
		t.Parts, by.Parts = append(t.Parts, m.with(name, other).Term(s, deep)), append(by.Parts, other)
	}
	t.Parts[0], t.Shapes = m.Term(by, deep), append(t.Shapes, m.written(s))
	return t
}

// raw makes what an own type is made of, if there is one of that.
func (m Maker) raw(s api.Shape, deep int) api.Term {
	for _, b := range m.Env.Own {
		if gradual.Near(b.Shape, s) {
			return api.Term{Kind: api.TmRaw, Name: b.Name, Parts: []api.Term{m.Term(api.Shape{Kind: api.ShOpaque, Of: m.Env.Self, Name: b.Name}, deep)}}
		}
	}
	return m.least(s, deep)
}

// tells is the type of a value, or, if it is asked as a function, of what that tells.
func tells(b api.Bind, function bool) (api.Shape, bool) {
	if !function {
		return b.Shape, true
	}
	if b.Shape.Kind != api.ShFun {
		return api.Shape{}, false
	}
	return b.Shape.Parts[len(b.Shape.Parts)-1], true
}

// value picks a value that may stand for a type, or a function that tells it, seldom one of which nothing is known. It looks at a few of them only, so that it may find none where there is one.
func (m Maker) value(s api.Shape, function bool) (api.Bind, bool) {
	for range 5 {
		i := m.Pick(len(m.Env.Values))
		b := m.Env.Values[i]
		told, ok := tells(b, function)
		hidden := slices.ContainsFunc(m.Env.Values[i+1:], func(later api.Bind) bool { return later.Of == b.Of && later.Name == b.Name })
		if ok && !hidden && gradual.Near(told, s) && (told.Kind != api.ShAny || m.Pick(6) == 0) {
			return b, true
		}
	}
	return api.Bind{}, false
}

// called makes a call of a value, if one is found that tells that type.
func (m Maker) called(s api.Shape, deep int) api.Term {
	b, ok := m.value(s, true)
	if !ok {
		return m.least(s, deep)
	}
	t := api.Term{Kind: api.TmCall, Parts: []api.Term{{Kind: api.TmVar, Of: b.Of, Name: b.Name}}}
	for _, part := range b.Shape.Parts[:len(b.Shape.Parts)-1] {
		t.Parts = append(t.Parts, m.Term(part, deep))
	}
	return t
}

// least makes an expression of a type by no more than it needs, with others in its parts.
func (m Maker) least(s api.Shape, deep int) api.Term {
	if b, ok := m.value(s, false); ok && m.Pick(2) == 0 {
		return api.Term{Kind: api.TmVar, Of: b.Of, Name: b.Name}
	}
	switch s.Kind {
	case api.ShInt:
		return api.Term{Kind: api.TmInt, N: m.Pick(1000)}
	case api.ShBool:
		return api.Term{Kind: api.TmTrue + m.Pick(2)}
	case api.ShText:
		return api.Term{Kind: api.TmText, Name: m.variable()}
	case api.ShAny:
		return m.Term(m.Type(1), deep)
	case api.ShList:
		return m.list(s.Parts[0], deep)
	case api.ShRecord:
		return m.record(s, deep)
	case api.ShFun:
		return m.function(s, deep)
	case api.ShVariant:
		if len(s.Names) > 0 {
			i := m.Pick(len(s.Names))
			return api.Term{Kind: api.TmCase, Name: s.Names[i], Parts: []api.Term{m.Term(s.Parts[i], deep)}}
		}
	case api.ShOpaque:
		for _, b := range m.Env.Own {
			if s.Of == m.Env.Self && s.Name == b.Name {
				return api.Term{Kind: api.TmNew, Name: b.Name, Parts: []api.Term{m.Term(b.Shape, deep)}}
			}
		}
	}
	return m.unknown()
}

// unknown is a value of which nothing is known, or whose name is not.
func (m Maker) unknown() api.Term {
	for _, b := range m.Env.Values {
		if b.Shape.Kind == api.ShAny {
			return api.Term{Kind: api.TmVar, Of: b.Of, Name: b.Name}
		}
	}
	return api.Term{Kind: api.TmVar, Name: "unknown"}
}

// list makes a list of a type.
func (m Maker) list(s api.Shape, deep int) api.Term {
	t := api.Term{Kind: api.TmList, Shapes: []api.Shape{m.written(s)}}
	for range m.Pick(3) {
		t.Parts = append(t.Parts, m.Term(s, deep))
	}
	return t
}

// record makes a record of a type, in any order, sometimes with a field more.
func (m Maker) record(s api.Shape, deep int) api.Term {
	t, parts, more := api.Term{Kind: api.TmRecord}, Fields(s), m.Pick(12)
	for i, name := range m.Pick.mixed() {
		part, ok := parts[name]
		delete(parts, name)
		if !ok && (i != more || deep <= 0) {
			continue
		}
		if !ok {
			part = m.Type(1)
		}
		t.Names, t.Parts = append(t.Names, name), append(t.Parts, m.Term(part, deep))
	}
	// The names that are not among the few.
	for _, name := range s.Names {
		if part, ok := parts[name]; ok {
			t.Names, t.Parts = append(t.Names, name), append(t.Parts, m.Term(part, deep))
		}
	}
	return t
}

// function makes a function of a type.
func (m Maker) function(s api.Shape, deep int) api.Term {
	t, last := api.Term{Kind: api.TmFun}, len(s.Parts)-1
	for _, part := range s.Parts[:last] {
		name := m.variable()
		for slices.Contains(t.Names, name) {
			name = m.variable()
		}
		t.Names, t.Shapes = append(t.Names, name), append(t.Shapes, m.written(part))
		m = m.with(name, part)
	}
	t.Parts = []api.Term{m.Term(s.Parts[last], deep)}
	return t
}
