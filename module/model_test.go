package module_test

import (
	"slices"
	"strings"

	"pandect/api"
	"pandect/lex"
	"pandect/parse"
	"pandect/ranges"
	"pandect/semver"
)

// chapter has, of each place in a module, what may stand there and which place is behind it: a word or a sign, or a token of a kind. What stands at the places type and expr is layer 9's.
const chapter = `
start   module>self
self    name>head
head    import>import type>Name opaque>Name let>name export>open
import  name>pin
pin     pin>pinned
pinned  VER>range
range   range>bounds
bounds  *>head ^>near <>bound <=>bound =>bound >=>bound >>bound
near    VER>head
bound   VER>more
more    <>bound <=>bound =>bound >=>bound >>bound import>import type>Name opaque>Name let>name export>open
Name    Upper>Name=
Name=   =>type
name    name>name=
name=   =>expr
decls   type>Name opaque>Name let>name export>open
open    (>first
first   )>end name>next Upper>next
next    ,>export )>end
export  name>next Upper>next
end     END>whole
`

// places are the chapter's places by their names.
var places = readPlaces()

func readPlaces() map[string]map[string]string {
	all := map[string]map[string]string{}
	for line := range strings.Lines(strings.TrimSpace(chapter)) {
		words := strings.Fields(line)
		all[words[0]] = map[string]string{}
		for _, word := range words[1:] {
			i := strings.LastIndex(word, ">")
			all[words[0]][word[:i]] = word[i+1:]
		}
	}
	return all
}

// classOf is what a token is called in the chapter.
func classOf(t api.Token) string {
	switch t.Kind {
	case api.TokEnd:
		return "END"
	case api.TokName:
		return "name"
	case api.TokUpper:
		return "Upper"
	case api.TokVer:
		return "VER"
	case api.TokInt, api.TokText:
		return "none"
	}
	return t.Text
}

// model is what is known of a module up to the token ahead.
type model struct {
	place                   string
	imports, decls, exports []string
	pin                     api.Token
	bounds                  []string
}

// modelFault is the fault that a source has.
func modelFault(s string) api.Fault {
	l, fault := lex.Scan(s)
	if fault != (api.Fault{}) {
		return fault
	}
	m := model{place: "start", decls: []string{"Int", "Bool", "Text", "Any"}}
	for i := 0; i < len(l); {
		behind := i + 1
		switch m.place {
		case "type":
			_, behind, fault = parse.Type(l, i)
			m.place = "decls"
		case "expr":
			_, behind, fault = parse.Term(l, i)
			m.place = "decls"
		default:
			fault = m.step(l[i])
		}
		if fault != (api.Fault{}) {
			return fault
		}
		i = behind
	}
	return api.Fault{}
}

// step takes the token ahead.
func (m *model) step(t api.Token) api.Fault {
	class := classOf(t)
	if m.place == "more" && places["bounds"][class] != "bound" && !m.meets() {
		return api.Fault{Err: api.ErrRange, At: m.pin.At}
	}
	next, ok := places[m.place][class]
	if !ok {
		return api.Fault{Err: api.ErrSyntax, At: t.At}
	}
	if err := m.enter(t, class); err != api.OK {
		return api.Fault{Err: err, At: t.At}
	}
	if (m.place == "near" || class == "*") && !m.meets() {
		return api.Fault{Err: api.ErrRange, At: m.pin.At}
	}
	m.place = next
	return api.Fault{}
}

// enter puts a token that fits to what is known, and tells the error at it.
func (m *model) enter(t api.Token, class string) api.Errno {
	const many = 1 << 20
	switch m.place {
	case "self":
		m.imports = []string{t.Text}
	case "import":
		return another(&m.imports, t.Text, 1+8)
	case "pinned":
		m.pin, m.bounds = t, nil
	case "bounds", "more":
		if places["bounds"][class] == "bound" && len(m.bounds) == 20 {
			return api.ErrBig
		}
		if places["bounds"][class] != "" {
			m.bounds = append(m.bounds, t.Text)
		}
	case "near", "bound":
		m.bounds[len(m.bounds)-1] += t.Text
	case "Name", "name":
		return another(&m.decls, t.Text, many)
	case "first", "export":
		if class != ")" {
			return another(&m.exports, t.Text, 60)
		}
	}
	return api.OK
}

// meets tells whether the pin meets the range.
func (m *model) meets() bool {
	v, err := semver.Parse(m.pin.Text)
	l, err2 := ranges.Parse(strings.Join(m.bounds, " "))
	if err != api.OK || err2 != api.OK {
		panic(m.bounds)
	}
	return ranges.Meets(v, l)
}

// another puts a name to others, of which there may be most.
func another(others *[]string, name string, most int) api.Errno {
	if slices.Contains(*others, name) {
		return api.ErrTwice
	}
	*others = append(*others, name)
	if len(*others) > most {
		return api.ErrBig
	}
	return api.OK
}
