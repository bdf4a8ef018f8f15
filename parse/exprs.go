package parse

import (
	"strconv"

	"pandect/api"
	"pandect/lex"
	"pandect/terms"
)

// wholeTerm reads an expression that stands in no other one. Only such a one may be too great: how great it is, is known at its end.
func (p *parser) wholeTerm() api.Term {
	at := p.Ahead().At
	t := p.expr()
	if err := terms.Check(t); err != api.OK {
		p.Fail(err, at)
	}
	return t
}

// expr reads an expression.
func (p *parser) expr() api.Term {
	at := p.begin()
	switch {
	case p.Pass("fun"):
		return p.fun(at)
	case p.Pass("let"):
		return p.let(at)
	case p.Pass("if"):
		return p.choice(at)
	case p.Pass("case"):
		return p.match(at)
	case p.Sees("["):
		return p.list(at)
	}
	return p.chain(at)
}

// begin tells the place of the token ahead, which an expression begins with. One below 0 does not fit: no expression may be there.
func (p *parser) begin() int {
	t := p.Ahead()
	if t.At < 0 {
		p.Misfit()
	}
	return t.At
}

// fun reads a function behind its first word.
func (p *parser) fun(at int) api.Term {
	t := api.Term{Kind: api.TmFun, At: at}
	p.Between("(", ",", ")", func() {
		t.Names = append(t.Names, p.Another(t.Names, p.Name))
		p.Want(":")
		t.Shapes = append(t.Shapes, p.wholeType())
	})
	p.Want("->")
	t.Parts = append(t.Parts, p.expr())
	return t
}

// let reads a value with a name behind its first word.
func (p *parser) let(at int) api.Term {
	t := api.Term{Kind: api.TmLet, Name: p.Name(), At: at}
	p.Want("=")
	t.Parts = append(t.Parts, p.expr())
	p.Want("in")
	t.Parts = append(t.Parts, p.expr())
	return t
}

// choice reads a choice of two behind its first word.
func (p *parser) choice(at int) api.Term {
	t := api.Term{Kind: api.TmIf, At: at}
	t.Parts = append(t.Parts, p.expr())
	p.Want("then")
	t.Parts = append(t.Parts, p.expr())
	p.Want("else")
	t.Parts = append(t.Parts, p.expr())
	p.Want("as")
	t.Shapes = append(t.Shapes, p.wholeType())
	return t
}

// match reads a choice of ways behind its first word.
func (p *parser) match(at int) api.Term {
	t := api.Term{Kind: api.TmMatch, At: at}
	t.Parts = append(t.Parts, p.expr())
	p.Want("of")
	p.Between("{", "|", "}", func() {
		t.Names = append(t.Names, p.Another(t.Names, p.Name))
		p.Want("(")
		t.Vars = append(t.Vars, p.Name())
		p.Want(":")
		t.Shapes = append(t.Shapes, p.wholeType())
		p.Want(")")
		p.Want("->")
		t.Parts = append(t.Parts, p.expr())
	})
	p.Want("as")
	t.Shapes = append(t.Shapes, p.wholeType())
	return t
}

// list reads a list.
func (p *parser) list(at int) api.Term {
	t := api.Term{Kind: api.TmList, At: at}
	p.Between("[", ",", "]", func() { t.Parts = append(t.Parts, p.expr()) })
	p.Want("of")
	t.Shapes = append(t.Shapes, p.wholeType())
	return t
}

// chain reads an atom, and the calls and the fields behind it: all of them begin where it does, its ( counted.
func (p *parser) chain(at int) api.Term {
	t := p.atom(at)
	for {
		switch {
		case p.Sees("("):
			parts := []api.Term{t}
			p.Between("(", ",", ")", func() { parts = append(parts, p.expr()) })
			t = api.Term{Kind: api.TmCall, Parts: parts, At: at}
		case p.Pass("."):
			t = api.Term{Kind: api.TmField, Name: p.Name(), Parts: []api.Term{t}, At: at}
		default:
			return t
		}
	}
}

// atom reads an atom.
func (p *parser) atom(at int) api.Term {
	switch {
	case p.Pass("true"):
		return api.Term{Kind: api.TmTrue, At: at}
	case p.Pass("false"):
		return api.Term{Kind: api.TmFalse, At: at}
	case p.Pass("("):
		return p.enclosed(at)
	case p.Sees("{"):
		return p.record(at)
	case p.Pass("@"):
		return p.of(api.TmCase, p.Name(), at)
	case p.Pass("new"):
		return p.of(api.TmNew, p.Upper(), at)
	case p.Pass("raw"):
		return p.of(api.TmRaw, p.Upper(), at)
	case p.Ahead().Kind == api.TokInt:
		return p.number(at)
	case p.Ahead().Kind == api.TokText:
		return api.Term{Kind: api.TmText, Name: p.TextOf(api.TokText, isText), At: at}
	}
	return p.value(at)
}

// number reads a number.
func (p *parser) number(at int) api.Term {
	// A number has so few digits that it is an int.
	n, _ := strconv.Atoi(p.TextOf(api.TokInt, isNumber))
	return api.Term{Kind: api.TmInt, N: n, At: at}
}

// value reads the name of a value, its own module's or another one's.
func (p *parser) value(at int) api.Term {
	t := api.Term{Kind: api.TmVar, Name: p.Name(), At: at}
	if p.Pass("/") {
		t.Of, t.Name = t.Name, p.Name()
	}
	return t
}

// enclosed reads what stands between ( and ), behind the first one: an expression, or one as a type, to which alone both belong.
func (p *parser) enclosed(at int) api.Term {
	t := p.expr()
	if p.Pass("as") {
		t = api.Term{Kind: api.TmAs, Shapes: []api.Shape{p.wholeType()}, Parts: []api.Term{t}, At: at}
	}
	p.Want(")")
	return t
}

// record reads a record.
func (p *parser) record(at int) api.Term {
	t := api.Term{Kind: api.TmRecord, At: at}
	p.Between("{", ",", "}", func() {
		t.Names = append(t.Names, p.Another(t.Names, p.Name))
		p.Want("=")
		t.Parts = append(t.Parts, p.expr())
	})
	return t
}

// of reads the one part of an expression of a kind and a name, between ( and ).
func (p *parser) of(kind int, name string, at int) api.Term {
	p.Want("(")
	part := p.expr()
	p.Want(")")
	return api.Term{Kind: kind, Name: name, Parts: []api.Term{part}, At: at}
}

// isNumber tells whether a text is a number's.
func isNumber(s string) bool {
	_, err := lex.Show(api.Token{Kind: api.TokInt, Text: s})
	return err == api.OK
}

// isText tells whether a text may stand in an expression.
func isText(s string) bool { return terms.Check(api.Term{Kind: api.TmText, Name: s}) == api.OK }
