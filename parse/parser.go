package parse

import (
	"slices"
	"strings"

	"pandect/api"
	"pandect/lex"
)

// where is where a parser stands: tokens, and the number of the one ahead.
type where struct {
	tokens []api.Token
	at     int
}

// ahead tells the token ahead: behind the last one a TokEnd, at its place.
func (w *where) ahead() api.Token {
	if w.at < len(w.tokens) {
		return w.tokens[w.at]
	}
	end := api.Token{Kind: api.TokEnd}
	if n := len(w.tokens); n > 0 {
		end.At = w.tokens[n-1].At
	}
	return end
}

// sees tells whether a sign or a word is ahead.
func (w *where) sees(text string) bool {
	t := w.ahead()
	return (t.Kind == api.TokSign || t.Kind == api.TokWord) && t.Text == text
}

// pass goes on behind a sign or a word, if it is ahead, and tells whether it was.
func (w *where) pass(text string) bool {
	if !w.sees(text) {
		return false
	}
	w.at++
	return true
}

// take tells the text of the token ahead, which is no end, and goes on behind it. It tells a copy, so that what is read keeps nothing alive that its tokens' texts are pieces of.
func (w *where) take() string {
	text := strings.Clone(w.ahead().Text)
	w.at++
	return text
}

// parser reads types and expressions from where it stands on, up to the first fault.
type parser struct {
	where
	fault api.Fault
}

// fail gives up: the first fault stays, and nothing is ahead any more, so that each reading that is still open ends.
func (p *parser) fail(err api.Errno, at int) {
	if p.fault.Err == api.OK {
		p.fault = api.Fault{Err: err, At: at}
	}
	p.at = len(p.tokens)
}

// misfit gives up, as the token ahead does not fit.
func (p *parser) misfit() { p.fail(api.ErrSyntax, p.ahead().At) }

// want goes on behind a sign or a word, which has to be ahead.
func (p *parser) want(text string) {
	if !p.pass(text) {
		p.misfit()
	}
}

// textOf reads the text of a token of a kind. Tokens may have been made by hand: one whose text is none of its kind's does not fit, as what it would stand in may not be.
func (p *parser) textOf(kind int, fits func(string) bool) string {
	if t := p.ahead(); t.Kind != kind || !fits(t.Text) {
		p.misfit()
		return ""
	}
	return p.take()
}

// name reads a name.
func (p *parser) name() string { return p.textOf(api.TokName, lex.Name) }

// upper reads an upper name.
func (p *parser) upper() string { return p.textOf(api.TokUpper, lex.Upper) }

// another reads a name behind others that stand in the same thing, none of which it may be.
func (p *parser) another(others []string) []string {
	at := p.ahead().At
	name := p.name()
	if slices.Contains(others, name) {
		p.fail(api.ErrTwice, at)
	}
	return append(others, name)
}

// between reads what stands between two signs: nothing, or what read reads, once or more with another sign between.
func (p *parser) between(open, sign, end string, read func()) {
	p.want(open)
	if p.pass(end) {
		return
	}
	read()
	for p.pass(sign) {
		read()
	}
	p.want(end)
}
