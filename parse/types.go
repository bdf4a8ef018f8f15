package parse

import (
	"pandect/api"
	"pandect/shape"
)

// wholeType reads a type that stands in no other one. Only such a one may be too great: how great it is, is known at its end.
func (p *parser) wholeType() api.Shape {
	at := p.Ahead().At
	s := p.anyType()
	if err := shape.Check(s); err != api.OK {
		p.Fail(err, at)
	}
	return s
}

// anyType reads a type.
func (p *parser) anyType() api.Shape {
	switch {
	case p.Pass("["):
		return p.listType()
	case p.Sees("{"):
		return p.fieldsType(api.ShRecord, "{", ",", "}")
	case p.Sees("<"):
		return p.fieldsType(api.ShVariant, "<", "|", ">")
	case p.Sees("("):
		return p.funType()
	case p.Ahead().Kind == api.TokName:
		return p.othersType()
	}
	return typeNamed(p.Upper())
}

// listType reads a list's type behind its first sign.
func (p *parser) listType() api.Shape {
	part := p.anyType()
	p.Want("]")
	return api.Shape{Kind: api.ShList, Parts: []api.Shape{part}}
}

// fieldsType reads the type of a record or a variant.
func (p *parser) fieldsType(kind int, open, sign, end string) api.Shape {
	s := api.Shape{Kind: kind}
	p.Between(open, sign, end, func() {
		s.Names = append(s.Names, p.Another(s.Names, p.Name))
		p.Want(":")
		s.Parts = append(s.Parts, p.anyType())
	})
	return s
}

// funType reads a function's type.
func (p *parser) funType() api.Shape {
	s := api.Shape{Kind: api.ShFun}
	p.Between("(", ",", ")", func() { s.Parts = append(s.Parts, p.anyType()) })
	p.Want("->")
	s.Parts = append(s.Parts, p.anyType())
	return s
}

// othersType reads the name of another module's type.
func (p *parser) othersType() api.Shape {
	of := p.Name()
	p.Want("/")
	return api.Shape{Kind: api.ShName, Of: of, Name: p.Upper()}
}

// typeNamed tells the type whose text an upper name alone is.
func typeNamed(name string) api.Shape {
	switch name {
	case "Int":
		return api.Shape{Kind: api.ShInt}
	case "Bool":
		return api.Shape{Kind: api.ShBool}
	case "Text":
		return api.Shape{Kind: api.ShText}
	case "Any":
		return api.Shape{Kind: api.ShAny}
	}
	return api.Shape{Kind: api.ShName, Name: name}
}
