package parse_test

import (
	"fmt"
	"math/rand"
	"regexp"
	"slices"
	"strconv"
	"strings"
	"unicode/utf8"

	"pandect/api"
)

// chapter is the chapter's grammar.
const chapter = `
type = Upper | name "/" Upper | "[" type "]"
     | "{" [ name ":" type { "," name ":" type } ] "}"
     | "<" [ name ":" type { "|" name ":" type } ] ">"
     | "(" [ type { "," type } ] ")" "->" type
expr = "fun" "(" [ name ":" type { "," name ":" type } ] ")" "->" expr
     | "let" name "=" expr "in" expr
     | "if" expr "then" expr "else" expr "as" type
     | "case" expr "of" "{" [ way { "|" way } ] "}" "as" type
     | "[" [ expr { "," expr } ] "]" "of" type
     | atom { "(" [ expr { "," expr } ] ")" | "." name }
way  = name "(" name ":" type ")" "->" expr
atom = INT | TEXT | "true" | "false" | name [ "/" name ] | "(" expr [ "as" type ] ")"
     | "{" [ name "=" expr { "," name "=" expr } ] "}" | "@" name "(" expr ")"
     | "new" Upper "(" expr ")" | "raw" Upper "(" expr ")"
`

// The forms of nodes of the grammar.
const (
	exact  = iota // a sign or a word: text
	kind          // a token of a kind: text
	rule          // what a rule says: text
	row           // parts, one behind the other
	either        // one of parts
	once          // parts[0], or nothing
	often         // parts[0], any number of times
)

// node is a piece of the grammar.
type node struct {
	form  int
	text  string
	parts []*node
}

// rules are the chapter's rules by their names.
var rules = readRules()

func readRules() map[string]*node {
	all := map[string]*node{}
	name, words := "", []string(nil)
	end := func() {
		if name != "" {
			all[name], words = readEither(words)
		}
		if len(words) > 0 {
			panic(words)
		}
	}
	for line := range strings.Lines(strings.TrimSpace(chapter)) {
		l := strings.Fields(line)
		if line[0] != ' ' {
			end()
			name, words, l = l[0], nil, l[2:]
		}
		words = append(words, l...)
	}
	end()
	return all
}

// readEither reads alternatives up to the end, or to a bracket that closes.
func readEither(words []string) (*node, []string) {
	n := &node{form: either}
	for {
		r := &node{form: row}
		for len(words) > 0 && !slices.Contains([]string{"|", "]", "}"}, words[0]) {
			var part *node
			part, words = readPart(words)
			r.parts = append(r.parts, part)
		}
		n.parts = append(n.parts, r)
		if len(words) == 0 || words[0] != "|" {
			return n, words
		}
		words = words[1:]
	}
}

func readPart(words []string) (*node, []string) {
	word, rest := words[0], words[1:]
	switch {
	case word == "[" || word == "{":
		part, rest := readEither(rest)
		return &node{form: map[string]int{"[": once, "{": often}[word], parts: []*node{part}}, rest[1:]
	case word[0] == '"':
		return &node{form: exact, text: strings.Trim(word, `"`)}, rest
	case slices.Contains([]string{"name", "Upper", "INT", "TEXT"}, word):
		return &node{form: kind, text: word}, rest
	}
	return &node{form: rule, text: word}, rest
}

// The words of layer 6 as forms.
var (
	formKept   = regexp.MustCompile(`^(module|import|pin|range|type|opaque|let|in|export|fun|if|then|else|case|of|as|new|raw|true|false)$`)
	formName   = regexp.MustCompile(`^[a-z][a-zA-Z0-9_]{0,23}$`)
	formUpper  = regexp.MustCompile(`^[A-Z][a-zA-Z0-9_]{0,23}$`)
	formNumber = regexp.MustCompile(`^(0|[1-9][0-9]{0,14})$`)
	formText   = regexp.MustCompile(`^[^\x00-\x08\x0b-\x1f]*$`)
)

// fits tells whether a token is one that a node of one token asks for.
func fits(n *node, t api.Token) bool {
	if n.form == exact {
		return (t.Kind == api.TokSign || t.Kind == api.TokWord) && t.Text == n.text
	}
	switch n.text {
	case "name":
		return t.Kind == api.TokName && formName.MatchString(t.Text) && !formKept.MatchString(t.Text)
	case "Upper":
		return t.Kind == api.TokUpper && formUpper.MatchString(t.Text)
	case "INT":
		return t.Kind == api.TokInt && formNumber.MatchString(t.Text)
	}
	return t.Kind == api.TokText && utf8.ValidString(t.Text) && formText.MatchString(t.Text)
}

// begins tells whether a token may be the first one of a node. (No part of the grammar that is not the last one of its row, and none that begins a row, may be empty but what stands in [ ] and { }.)
func begins(n *node, t api.Token) bool {
	switch n.form {
	case exact, kind:
		return fits(n, t)
	case rule:
		return begins(rules[n.text], t)
	case row:
		return begins(n.parts[0], t)
	}
	return slices.ContainsFunc(n.parts, func(part *node) bool { return begins(part, t) })
}

// What a token does to what is still to be read.
const (
	taken = iota
	whole // it is behind what was read
	wrong
)

// step puts a token to what is still to be read, the next node last, and tells what is to be read behind it.
func step(open []*node, t api.Token) ([]*node, int) {
	open = slices.Clone(open)
	for len(open) > 0 {
		n := open[len(open)-1]
		open = open[:len(open)-1]
		switch n.form {
		case exact, kind:
			if fits(n, t) {
				return open, taken
			}
			return nil, wrong
		case rule:
			open = append(open, rules[n.text])
		case row:
			for _, part := range slices.Backward(n.parts) {
				open = append(open, part)
			}
		case either:
			at := slices.IndexFunc(n.parts, func(part *node) bool { return begins(part, t) })
			if at < 0 {
				return nil, wrong
			}
			open = append(open, n.parts[at])
		case once, often:
			if begins(n, t) && n.form == often {
				open = append(open, n)
			}
			if begins(n, t) {
				open = append(open, n.parts[0])
			}
		}
	}
	return nil, whole
}

// frame is a bracket that is open, the names of what it holds, and the signs that stand ahead of such a name.
type frame struct {
	names []string
	ahead []string
}

// modelTwice tells the number of the first name that stands a second time in one list of names, of tokens that are read up to there; -1: of none.
func modelTwice(l []api.Token, at int) int {
	open := []frame{{}}
	for i := at; i < len(l); i++ {
		t, last := l[i], api.Token{}
		if i > at {
			last = l[i-1]
		}
		top := &open[len(open)-1]
		switch {
		case t.Kind == api.TokName && slices.Contains(top.ahead, last.Text) && last.Kind == api.TokSign:
			if slices.Contains(top.names, t.Text) {
				return i
			}
			top.names = append(top.names, t.Text)
		case t.Kind == api.TokSign && (t.Text == "{" || t.Text == "<"):
			open = append(open, frame{ahead: []string{t.Text, ",", "|"}})
		case t.Kind == api.TokSign && t.Text == "(" && last.Text == "fun" && last.Kind != api.TokText:
			open = append(open, frame{ahead: []string{"(", ","}})
		case t.Kind == api.TokSign && (t.Text == "(" || t.Text == "["):
			open = append(open, frame{})
		case t.Kind == api.TokSign && strings.Contains(")]}>", t.Text) && len(open) > 1:
			open = open[:len(open)-1]
		}
	}
	return -1
}

// modelRead tells the number of the token behind what a rule reads from a token on, or the fault, of lists of at most 4097 tokens of which nothing is too great.
func modelRead(name string, l []api.Token, at int) (int, api.Fault) {
	open := []*node{rules[name]}
	behind, did := at, taken
	for ; ; behind++ {
		if open, did = step(open, tokenAt(l, behind)); did != taken {
			break
		}
	}
	if twice := modelTwice(l[:behind], at); twice >= 0 {
		return 0, api.Fault{Err: api.ErrTwice, At: l[twice].At}
	}
	if did == wrong {
		return 0, api.Fault{Err: api.ErrSyntax, At: tokenAt(l, behind).At}
	}
	return behind, api.Fault{}
}

// tokenAt is the token of a number; behind the last one a TokEnd at its place.
func tokenAt(l []api.Token, at int) api.Token {
	if at < len(l) {
		return l[at]
	}
	if at = 0; len(l) > 0 {
		at = l[len(l)-1].At
	}
	return api.Token{At: at}
}

// sameShape tells whether two types are just the same.
func sameShape(a, b api.Shape) bool {
	return a.Kind == b.Kind && a.Of == b.Of && a.Name == b.Name && slices.Equal(a.Names, b.Names) && slices.EqualFunc(a.Parts, b.Parts, sameShape)
}

// sameTerm tells whether two expressions are just the same, also their places.
func sameTerm(a, b api.Term) bool {
	return a.Kind == b.Kind && a.Of == b.Of && a.Name == b.Name && a.N == b.N && a.At == b.At && slices.Equal(a.Names, b.Names) && slices.Equal(a.Vars, b.Vars) && slices.EqualFunc(a.Shapes, b.Shapes, sameShape) && slices.EqualFunc(a.Parts, b.Parts, sameTerm)
}

// writer writes expressions and types with blanks, remarks and ( ) put where they may stand, and puts the places into the expressions.
type writer struct {
	strings.Builder
	r *rand.Rand
	// most is how many ( stand around an expression at most that need not.
	most int
}

// put writes tokens, parted by blanks, and tells the place of the first one.
func (w *writer) put(tokens string) int {
	at := -1
	for _, token := range strings.Fields(tokens) {
		w.WriteString([]string{" ", " ", " ", "\n", " \t\r", " -- ( [\n"}[w.r.Intn(6)])
		if at < 0 {
			at = w.Len()
		}
		w.WriteString(token)
	}
	return at
}

// quote writes a text between quotes.
func (w *writer) quote(s string) int {
	w.WriteString(" ")
	at := w.Len()
	w.WriteString(`"` + strings.NewReplacer("\n", `\n`, "\t", `\t`, `"`, `\"`, `\`, `\\`).Replace(s) + `"`)
	return at
}

// each calls write for each of n things, with a sign between.
func (w *writer) each(n int, sign string, write func(int)) {
	for i := range n {
		if i > 0 {
			w.put(sign)
		}
		write(i)
	}
}

// typed writes a type.
func (w *writer) typed(s api.Shape) {
	part := func(i int) { w.typed(s.Parts[i]) }
	field := func(i int) {
		w.put(s.Names[i] + " :")
		w.typed(s.Parts[i])
	}
	switch s.Kind {
	case api.ShInt, api.ShBool, api.ShText, api.ShAny:
		w.put([]string{"Int", "Bool", "Text", "Any"}[s.Kind-api.ShInt])
	case api.ShList:
		w.put("[")
		part(0)
		w.put("]")
	case api.ShRecord:
		w.put("{")
		w.each(len(s.Parts), ",", field)
		w.put("}")
	case api.ShVariant:
		w.put("<")
		w.each(len(s.Parts), "|", field)
		w.put(">")
	case api.ShFun:
		w.put("(")
		w.each(len(s.Parts)-1, ",", part)
		w.put(") ->")
		part(len(s.Parts) - 1)
	case api.ShName:
		w.put(strings.TrimPrefix(s.Of+" / "+s.Name, " / "))
	default:
		panic(fmt.Sprint(s))
	}
}

// expr writes an expression, and tells the place of its first token, a ( around it counted.
func (w *writer) expr(t *api.Term) int { return w.around(t, w.r.Intn(w.most+1)) }

// operand writes an expression behind which more of the same expression stands.
func (w *writer) operand(t *api.Term) int {
	n := w.r.Intn(w.most + 1)
	if slices.Contains([]int{api.TmFun, api.TmList, api.TmIf, api.TmMatch, api.TmLet}, t.Kind) {
		n = max(n, 1)
	}
	return w.around(t, n)
}

// around writes an expression with n times ( and ) around it.
func (w *writer) around(t *api.Term, n int) int {
	if n == 0 {
		t.At = w.bare(t)
		return t.At
	}
	first := w.put("(")
	w.around(t, n-1)
	w.put(")")
	return first
}

// binds writes the names and the types of a function's things.
func (w *writer) binds(t *api.Term) {
	w.each(len(t.Names), ",", func(i int) {
		w.put(t.Names[i] + " :")
		w.typed(t.Shapes[i])
	})
}

// ways writes the ways of a case.
func (w *writer) ways(t *api.Term) {
	w.each(len(t.Names), "|", func(i int) {
		w.put(t.Names[i] + " ( " + t.Vars[i] + " :")
		w.typed(t.Shapes[i])
		w.put(") ->")
		w.expr(&t.Parts[i+1])
	})
}

// bare writes an expression with nothing around it, and tells the place of its first token.
func (w *writer) bare(t *api.Term) int {
	at := 0
	switch t.Kind {
	case api.TmInt:
		at = w.put(strconv.Itoa(t.N))
	case api.TmText:
		at = w.quote(t.Name)
	case api.TmTrue:
		at = w.put("true")
	case api.TmFalse:
		at = w.put("false")
	case api.TmVar:
		at = w.put(strings.TrimPrefix(t.Of+" / "+t.Name, " / "))
	case api.TmFun:
		at = w.put("fun (")
		w.binds(t)
		w.put(") ->")
		w.expr(&t.Parts[0])
	case api.TmCall:
		at = w.operand(&t.Parts[0])
		w.put("(")
		w.each(len(t.Parts)-1, ",", func(i int) { w.expr(&t.Parts[i+1]) })
		w.put(")")
	case api.TmRecord:
		at = w.put("{")
		w.each(len(t.Names), ",", func(i int) {
			w.put(t.Names[i] + " =")
			w.expr(&t.Parts[i])
		})
		w.put("}")
	case api.TmField:
		at = w.operand(&t.Parts[0])
		w.put(". " + t.Name)
	case api.TmCase, api.TmNew, api.TmRaw:
		at = w.put(map[int]string{api.TmCase: "@", api.TmNew: "new", api.TmRaw: "raw"}[t.Kind] + " " + t.Name + " (")
		w.expr(&t.Parts[0])
		w.put(")")
	default:
		at = w.long(t)
	}
	return at
}

// long writes an expression of more than one part with types.
func (w *writer) long(t *api.Term) int {
	at := 0
	switch t.Kind {
	case api.TmList:
		at = w.put("[")
		w.each(len(t.Parts), ",", func(i int) { w.expr(&t.Parts[i]) })
		w.put("] of")
		w.typed(t.Shapes[0])
	case api.TmIf:
		at = w.put("if")
		w.expr(&t.Parts[0])
		w.put("then")
		w.expr(&t.Parts[1])
		w.put("else")
		w.expr(&t.Parts[2])
		w.put("as")
		w.typed(t.Shapes[0])
	case api.TmMatch:
		at = w.put("case")
		w.expr(&t.Parts[0])
		w.put("of {")
		w.ways(t)
		w.put("} as")
		w.typed(t.Shapes[len(t.Names)])
	case api.TmLet:
		at = w.put("let " + t.Name + " =")
		w.expr(&t.Parts[0])
		w.put("in")
		w.expr(&t.Parts[1])
	case api.TmAs:
		at = w.put("(")
		w.expr(&t.Parts[0])
		w.put("as")
		w.typed(t.Shapes[0])
		w.put(")")
	default:
		panic(fmt.Sprint(t))
	}
	return at
}

// sourceOf writes an expression, and puts its places into it.
func sourceOf(r *rand.Rand, t *api.Term, most int) string {
	w := &writer{r: r, most: most}
	w.expr(t)
	return w.String()
}
