// Package walk goes through tokens one by one, up to the first that does not fit: what the readers of types, expressions and modules have in common.
package walk

import (
	"slices"
	"strings"

	"pandect/api"
	"pandect/lex"
)

// Where is where a reader stands: tokens, the number of the one ahead, and the fault for which it gave up, if it did.
type Where struct {
	Tokens []api.Token
	At     int
	Fault  api.Fault
}

// Ahead tells the token ahead: behind the last one a TokEnd, at its place.
func (w *Where) Ahead() api.Token {
	if w.At < len(w.Tokens) {
		return w.Tokens[w.At]
	}
	end := api.Token{Kind: api.TokEnd}
	if n := len(w.Tokens); n > 0 {
		end.At = w.Tokens[n-1].At
	}
	return end
}

// Sees tells whether a sign or a word is ahead that is one of these.
func (w *Where) Sees(words ...string) bool {
	t := w.Ahead()
	return (t.Kind == api.TokSign || t.Kind == api.TokWord) && slices.Contains(words, t.Text)
}

// Pass goes on behind a sign or a word that is one of these, if one is ahead, and tells whether it was.
func (w *Where) Pass(words ...string) bool {
	if !w.Sees(words...) {
		return false
	}
	w.At++
	return true
}

// Want goes on behind a sign or a word, which has to be ahead and one of these, and tells which one it was.
func (w *Where) Want(words ...string) string {
	if !w.Sees(words...) {
		w.Misfit()
		return ""
	}
	return w.take()
}

// TextOf reads the text of a token of a kind. Tokens may have been made by hand: one whose text is none of its kind's does not fit, as what it would stand in may not be.
func (w *Where) TextOf(kind int, fits func(string) bool) string {
	if t := w.Ahead(); t.Kind != kind || !fits(t.Text) {
		w.Misfit()
		return ""
	}
	return w.take()
}

// Name reads a name.
func (w *Where) Name() string { return w.TextOf(api.TokName, lex.Name) }

// Upper reads an upper name.
func (w *Where) Upper() string { return w.TextOf(api.TokUpper, lex.Upper) }

// Another reads, as read does, a name that stands in the same thing as others, none of which it may be.
func (w *Where) Another(others []string, read func() string) string {
	at := w.Ahead().At
	name := read()
	if slices.Contains(others, name) {
		w.Fail(api.ErrTwice, at)
	}
	return name
}

// Between reads what stands between two signs: nothing, or what read reads, once or more with another sign between.
func (w *Where) Between(open, sign, end string, read func()) {
	w.Want(open)
	if w.Pass(end) {
		return
	}
	read()
	for w.Pass(sign) {
		read()
	}
	w.Want(end)
}

// Fail gives up: the first fault stays, and nothing is ahead any more, so that each reading that is still open ends.
func (w *Where) Fail(err api.Errno, at int) {
	if w.Fault.Err == api.OK {
		w.Fault = api.Fault{Err: err, At: at}
	}
	w.At = len(w.Tokens)
}

// Misfit gives up, as the token ahead does not fit.
func (w *Where) Misfit() { w.Fail(api.ErrSyntax, w.Ahead().At) }

// take tells the text of the token ahead, which is no end, and goes on behind it. It tells a copy, so that what is read keeps nothing alive that its tokens' texts are pieces of.
func (w *Where) take() string {
	text := strings.Clone(w.Ahead().Text)
	w.At++
	return text
}
