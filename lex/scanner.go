package lex

import (
	"strings"

	"pandect/api"
	"pandect/utf"
)

// What stands between tokens, and where a remark ends.
const (
	blanks  = "\t\n\r "
	remark  = "--"
	lineEnd = "\n"
)

// maxSign is how many bytes a sign has at most.
const maxSign = 2

// where is where a scanner stands: a source, and the number of the byte ahead.
type where struct {
	source string
	at     int
}

// ended tells whether nothing is ahead.
func (w *where) ended() bool { return w.at == len(w.source) }

// first tells the byte ahead.
func (w *where) first() byte { return w.source[w.at] }

// next tells the n bytes ahead, fewer where there are not as many.
func (w *where) next(n int) string { return w.source[w.at:min(w.at+n, len(w.source))] }

// rest tells all bytes ahead.
func (w *where) rest() string { return w.source[w.at:] }

// run tells the bytes ahead that may stand in something, as many as there are.
func (w *where) run(in func(byte) bool) string {
	end := w.at
	for end < len(w.source) && in(w.source[end]) {
		end++
	}
	return w.source[w.at:end]
}

// decoded tells the fault of the first of n bytes ahead at which no code point's bytes begin.
func (w *where) decoded(n int) api.Fault {
	_, fault := utf.Decode(w.next(n))
	if fault.Err != api.OK {
		fault.At += w.at
	}
	return fault
}

// noToken tells the fault that no token begins here.
func (w *where) noToken() api.Fault { return api.Fault{Err: api.ErrToken, At: w.at} }

// scanner gathers tokens from where it stands on.
type scanner struct {
	where
	tokens []api.Token
}

// scan takes all tokens up to the end.
func (c *scanner) scan() api.Fault {
scanning:
	for !c.ended() {
		for i := range len(blanks) {
			if c.first() == blanks[i] {
				c.at++
				continue scanning
			}
		}
		if fault := c.takeAny(); fault.Err != api.OK {
			return fault
		}
	}
	c.take(api.TokEnd, "", 0)
	return api.Fault{}
}

// takeAny takes the remark or the token ahead.
func (c *scanner) takeAny() api.Fault {
	switch {
	case c.next(len(remark)) == remark:
		return c.passRemark()
	case c.first() == quote:
		return c.takeQuoted()
	}
	return c.takePlain()
}

// take takes a token of n bytes.
func (c *scanner) take(kind int, text string, n int) {
	c.tokens = append(c.tokens, api.Token{Kind: kind, Text: text, At: c.at})
	c.at += n
}

// passRemark goes on behind the remark ahead.
func (c *scanner) passRemark() api.Fault {
	text, _, _ := strings.Cut(c.rest(), lineEnd)
	if fault := c.decoded(len(text)); fault.Err != api.OK {
		return fault
	}
	c.at += len(text)
	return api.Fault{}
}

// takeQuoted takes the quoted text ahead.
func (c *scanner) takeQuoted() api.Fault {
	text, n, ok := unquote(c.rest())
	// What has been read goes first: only behind it is what may make it no token.
	if fault := c.decoded(n); fault.Err != api.OK {
		return fault
	}
	if !ok {
		return c.noToken()
	}
	c.take(api.TokText, text, n)
	return api.Fault{}
}

// takePlain takes the token ahead, which is no quoted text.
func (c *scanner) takePlain() api.Fault {
	text := c.longest()
	kind, ok := kindOf(text)
	if !ok {
		return c.noToken()
	}
	// A copy, so that a token does not keep the whole source alive that it was taken from.
	c.take(kind, strings.Clone(text), len(text))
	return api.Fault{}
}

// longest tells the bytes ahead that have to be one token, if they begin with one that is no quoted text.
func (c *scanner) longest() string {
	switch b := c.first(); {
	case isLetter(b):
		return c.run(inName)
	case isDigit(b):
		return c.run(inLump)
	case Sign(c.next(maxSign)):
		return c.next(maxSign)
	}
	return c.next(1)
}
