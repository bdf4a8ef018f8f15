package ranges

import (
	"pandect/api"
	"pandect/semver"
)

// ends are the bounds that some ranges come to: the lower and the upper one, where their Op is not 0.
type ends struct{ lower, upper api.Bound }

// nothing is the bound that no version that may be meets.
func nothing() api.Bound { return api.Bound{Op: api.Below, V: api.Version{Pre: "0"}} }

// narrow brings one bound more in.
func (e *ends) narrow(b api.Bound) {
	if !isOp(b.Op) {
		b = nothing()
	}
	if b.Op >= api.Just {
		e.narrowLower(b)
	}
	if b.Op <= api.Just {
		e.narrowUpper(b)
	}
}

// narrowLower takes a bound as the lower one, if it leaves less than the one that is there.
func (e *ends) narrowLower(b api.Bound) {
	order := semver.Cmp(b.V, e.lower.V)
	// Of several with the same version the first one stays, but an Above one goes ahead of the others.
	if e.lower.Op == 0 || order > 0 || order == 0 && b.Op == api.Above && e.lower.Op != api.Above {
		e.lower = b
	}
}

// narrowUpper takes a bound as the upper one, if it leaves less than the one that is there.
func (e *ends) narrowUpper(b api.Bound) {
	order := semver.Cmp(b.V, e.upper.V)
	if e.upper.Op == 0 || order < 0 || order == 0 && b.Op == api.Below && e.upper.Op != api.Below {
		e.upper = b
	}
}

// bounds tells the ends as a range.
func (e *ends) bounds() []api.Bound {
	lower, upper := e.lower, e.upper
	if lower.Op == api.Just {
		lower.Op = api.Least
	}
	if upper.Op == api.Just {
		upper.Op = api.Most
	}
	switch {
	case lower.Op == 0 && upper.Op == 0:
		return nil
	case upper.Op == 0:
		return []api.Bound{lower}
	case lower.Op == 0:
		return []api.Bound{upper}
	}
	switch order := semver.Cmp(lower.V, upper.V); {
	case order < 0:
		return []api.Bound{lower, upper}
	case order == 0 && lower.Op == api.Least && upper.Op == api.Most:
		return []api.Bound{{Op: api.Just, V: lower.V}}
	}
	return []api.Bound{nothing()}
}
