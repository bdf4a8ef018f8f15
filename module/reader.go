package module

import (
	"pandect/api"
	"pandect/parse"
	"pandect/ranges"
	"pandect/semver"
	"pandect/walk"
)

// reader reads a module from where it stands on, up to the first fault.
type reader struct {
	walk.Where
}

// module reads a module, behind which nothing stands.
func (r *reader) module() api.Module {
	r.Want("module")
	m := api.Module{Name: r.Name()}
	m.Imports = r.imports(m.Name)
	m.Decls = r.decls()
	m.At = r.Ahead().At
	r.Want("export")
	m.Exports = r.exports()
	if r.Ahead().Kind != api.TokEnd {
		r.Misfit()
	}
	return m
}

// imports reads the imports of the module self.
func (r *reader) imports(self string) []api.Import {
	var l []api.Import
	for others := []string{self}; r.Sees("import"); {
		one := r.imported(others)
		l, others = append(l, one), append(others, one.Name)
	}
	return l
}

// imported reads an import, which may have none of others' names: the module's, and those of the imports ahead.
func (r *reader) imported(others []string) api.Import {
	one := api.Import{At: r.Ahead().At}
	r.Want("import")
	named := r.Ahead().At
	one.Name = r.Another(others, r.Name)
	if len(others) > api.MaxImports {
		r.Fail(api.ErrBig, named)
	}
	r.Want("pin")
	pinned := r.Ahead().At
	// A token of that kind is a version's text.
	one.Pin, _ = semver.Parse(r.versionText())
	r.Want("range")
	one.Range = r.bounds()
	if !ranges.Meets(one.Pin, one.Range) {
		r.Fail(api.ErrRange, pinned)
	}
	return one
}

// bounds reads a range.
func (r *reader) bounds() []api.Bound {
	switch {
	case r.Pass("*"):
		return nil
	case r.Sees("^"):
		return r.bound("^")
	}
	signs := []string{"<", "<=", "=", ">=", ">"}
	l := r.bound(signs...)
	for r.Sees(signs...) {
		if len(l) == api.MaxTerm {
			r.Fail(api.ErrBig, r.Ahead().At)
		}
		l = append(l, r.bound(signs...)...)
	}
	return l
}

// bound reads one of some signs, with a version behind. What they say together, ranges knows.
func (r *reader) bound(signs ...string) []api.Bound {
	sign := r.Want(signs...)
	l, _ := ranges.Parse(sign + r.versionText())
	return l
}

// versionText reads a version, and tells its text.
func (r *reader) versionText() string {
	return r.TextOf(api.TokVer, func(string) bool { return true })
}

// decls reads the declarations.
func (r *reader) decls() []api.Decl {
	var l []api.Decl
	for others := keptUppers(); r.Sees("type", "opaque", "let"); {
		d := r.decl(others)
		l, others = append(l, d), append(others, d.Name)
	}
	return l
}

// decl reads a declaration, which may have none of others' names.
func (r *reader) decl(others []string) api.Decl {
	d := api.Decl{At: r.Ahead().At}
	switch {
	case r.Pass("type"):
		d.Kind = api.DeType
	case r.Pass("opaque"):
		d.Kind = api.DeOpaque
	default:
		r.Want("let")
		d.Kind = api.DeLet
		d.Name = r.Another(others, r.Name)
		r.Want("=")
		d.Term = within(r, parse.Term)
		return d
	}
	d.Name = r.Another(others, r.Upper)
	r.Want("=")
	d.Shape = within(r, parse.Type)
	return d
}

// exports reads what is exported, with the signs around it.
func (r *reader) exports() []string {
	var l []string
	r.Between("(", ",", ")", func() {
		at := r.Ahead().At
		name := r.Another(l, r.anyName)
		if len(l) == api.MaxItems {
			r.Fail(api.ErrBig, at)
		}
		l = append(l, name)
	})
	return l
}

// anyName reads a name or an upper name.
func (r *reader) anyName() string {
	if r.Ahead().Kind == api.TokUpper {
		return r.Upper()
	}
	return r.Name()
}

// within tells what another reader reads from where this one stands on, and goes on behind it.
func within[T any](r *reader, read func([]api.Token, int) (T, int, api.Fault)) T {
	t, behind, fault := read(r.Tokens, r.At)
	if fault.Err != api.OK {
		r.Fail(fault.Err, fault.At)
		return t
	}
	r.At = behind
	return t
}
