package shape_test

import (
	"regexp"
	"slices"
	"strings"
	"testing"

	"pandect/api"
)

// The chapter's words as forms.
var (
	formKept  = regexp.MustCompile(`^(module|import|pin|range|type|opaque|let|in|export|fun|if|then|else|case|of|as|new|raw|true|false)$`)
	formName  = regexp.MustCompile(`^[a-z][a-zA-Z0-9_]{0,23}$`)
	formUpper = regexp.MustCompile(`^[A-Z][a-zA-Z0-9_]{0,23}$`)
	formPlain = regexp.MustCompile(`^(Int|Bool|Text|Any)$`)
	formPiece = regexp.MustCompile(`^\s*([A-Za-z0-9_]+|->|[^A-Za-z0-9_\s])`)
)

// kinds are the kinds of types that have a text of their own.
var kinds = map[string]int{"Int": api.ShInt, "Bool": api.ShBool, "Text": api.ShText, "Any": api.ShAny}

func isName(s string) bool { return formName.MatchString(s) && !formKept.MatchString(s) }

// modelFits tells whether a part fits, field by field as the chapter lists them.
func modelFits(s api.Shape) bool {
	none := func(l ...int) bool { return slices.Max(l) == 0 }
	switch s.Kind {
	case 1, 2, 3, 4:
		return none(len(s.Of), len(s.Name), len(s.Names), len(s.Parts))
	case 5:
		return none(len(s.Of), len(s.Name), len(s.Names)) && len(s.Parts) == 1
	case 6, 7:
		sorted := slices.Sorted(slices.Values(s.Names))
		right := !slices.ContainsFunc(sorted, func(name string) bool { return !isName(name) })
		return none(len(s.Of), len(s.Name)) && right && len(slices.Compact(sorted)) == len(s.Parts) && len(s.Names) == len(s.Parts)
	case 8:
		return none(len(s.Of), len(s.Name), len(s.Names)) && len(s.Parts) != 0
	case 9:
		right := s.Of == "" && !formPlain.MatchString(s.Name) || isName(s.Of)
		return none(len(s.Names), len(s.Parts)) && right && formUpper.MatchString(s.Name)
	case 10:
		return none(len(s.Names), len(s.Parts)) && isName(s.Of) && formUpper.MatchString(s.Name)
	}
	return false
}

// modelParts are all parts of a type that is no greater than a test can hold, the outermost ones first.
func modelParts(s api.Shape) []api.Shape {
	l := []api.Shape{s}
	for i := 0; i < len(l); i++ {
		l = append(l, l[i].Parts...)
	}
	return l
}

// modelDeep counts levels from the outermost one on.
func modelDeep(s api.Shape) int {
	n := 0
	for level := []api.Shape{s}; len(level) > 0; n++ {
		var next []api.Shape
		for _, part := range level {
			next = append(next, part.Parts...)
		}
		level = next
	}
	return n
}

func modelCheck(s api.Shape) api.Errno {
	parts := modelParts(s)
	if len(parts) > 400 {
		return api.ErrBig
	}
	if modelDeep(s) > 40 {
		return api.ErrDeep
	}
	for _, part := range parts {
		if !modelFits(part) {
			return api.ErrShape
		}
	}
	return api.OK
}

// modelSort takes the least name of what is left, again and again, all through a type.
func modelSort(s api.Shape) api.Shape {
	sorted := api.Shape{Kind: s.Kind, Of: s.Of, Name: s.Name}
	for _, part := range s.Parts {
		sorted.Parts = append(sorted.Parts, modelSort(part))
	}
	parts := sorted.Parts
	for names := slices.Clone(s.Names); len(names) > 0; {
		if len(sorted.Names) == 0 {
			sorted.Parts = nil
		}
		least := slices.Index(names, slices.Min(names))
		sorted.Names, sorted.Parts = append(sorted.Names, names[least]), append(sorted.Parts, parts[least])
		names, parts = slices.Delete(names, least, least+1), slices.Delete(slices.Clone(parts), least, least+1)
	}
	return sorted
}

// equal holds two types against each other field by field, in one order.
func equal(a, b api.Shape) bool {
	if a.Kind != b.Kind || a.Of != b.Of || a.Name != b.Name || len(a.Names) != len(b.Names) || len(a.Parts) != len(b.Parts) {
		return false
	}
	for i := range a.Names {
		if a.Names[i] != b.Names[i] {
			return false
		}
	}
	for i := range a.Parts {
		if !equal(a.Parts[i], b.Parts[i]) {
			return false
		}
	}
	return true
}

// reader reads a type from its text, in which a ! stands ahead of what is opaque.
type reader struct {
	t    *testing.T
	rest string
}

// of is the type of a text.
func of(t *testing.T, text string) api.Shape {
	t.Helper()
	r := &reader{t: t, rest: text}
	s := r.shape()
	if r.rest != "" {
		t.Fatalf("%q is left of %q", r.rest, text)
	}
	return s
}

// next tells the piece ahead without going on.
func (r *reader) next() string {
	if m := formPiece.FindStringSubmatch(r.rest); m != nil {
		return m[1]
	}
	return ""
}

// take takes the piece ahead.
func (r *reader) take() string {
	piece := r.next()
	r.rest = r.rest[strings.Index(r.rest, piece)+len(piece):]
	return piece
}

// must takes a piece that has to be there.
func (r *reader) must(piece string) {
	r.t.Helper()
	if got := r.take(); got != piece {
		r.t.Fatalf("%q in the place of %q ahead of %q", got, piece, r.rest)
	}
}

// each takes what stands up to a piece, with signs between.
func (r *reader) each(between, end string, take func()) {
	for r.next() != end {
		take()
		if r.next() != end {
			r.must(between)
		}
	}
	r.must(end)
}

// fields takes fields or cases.
func (r *reader) fields(kind int, between, end string) api.Shape {
	s := api.Shape{Kind: kind}
	r.each(between, end, func() {
		s.Names = append(s.Names, r.take())
		r.must(":")
		s.Parts = append(s.Parts, r.shape())
	})
	return s
}

func (r *reader) shape() api.Shape {
	switch piece := r.take(); piece {
	case "[":
		s := api.Shape{Kind: api.ShList, Parts: []api.Shape{r.shape()}}
		r.must("]")
		return s
	case "{":
		return r.fields(api.ShRecord, ",", "}")
	case "<":
		return r.fields(api.ShVariant, "|", ">")
	case "(":
		s := api.Shape{Kind: api.ShFun}
		r.each(",", ")", func() { s.Parts = append(s.Parts, r.shape()) })
		r.must("->")
		s.Parts = append(s.Parts, r.shape())
		return s
	case "!":
		s := r.shape()
		s.Kind = api.ShOpaque
		return s
	default:
		if kinds[piece] != 0 {
			return api.Shape{Kind: kinds[piece]}
		}
		s := api.Shape{Kind: api.ShName, Name: piece}
		if r.next() == "/" {
			r.must("/")
			s.Of, s.Name = piece, r.take()
		}
		return s
	}
}
