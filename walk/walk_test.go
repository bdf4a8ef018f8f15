package walk_test

import (
	"slices"
	"testing"

	"pandect/api"
	"pandect/lex"
	"pandect/walk"
)

// on is where a reader of a source stands at first.
func on(t *testing.T, s string) *walk.Where {
	t.Helper()
	l, f := lex.Scan(s)
	if f != (api.Fault{}) {
		t.Fatal(s, f)
	}
	return &walk.Where{Tokens: l}
}

// wantStand asks where a reader stands.
func wantStand(t *testing.T, w *walk.Where, at int, fault api.Fault) {
	t.Helper()
	if w.At != at || w.Fault != fault {
		t.Errorf("at token %d with fault %d at %d, want %d with %d at %d", w.At, int(w.Fault.Err), w.Fault.At, at, int(fault.Err), fault.At)
	}
}

// TestWords: words and signs are seen, passed and wanted, whichever of some is ahead; no token of another kind is one.
func TestWords(t *testing.T) {
	w := on(t, "let = in")
	if !w.Sees("let") || !w.Sees("=", "let") || w.Sees() || w.Sees("=", "in") {
		t.Error("Sees")
	}
	if w.Pass("=", "in") || w.Pass() || !w.Pass("in", "let") {
		t.Error("Pass")
	}
	wantStand(t, w, 1, api.Fault{})
	if w.Want("<", "=", ">") != "=" || w.Want("in") != "in" || w.Sees("", "in") {
		t.Error("Want")
	}
	wantStand(t, w, 3, api.Fault{})
	if w.Want("in", "") != "" {
		t.Error("Want at the end")
	}
	wantStand(t, w, 4, api.Fault{Err: api.ErrSyntax, At: 8})
	for _, kind := range []int{-1, api.TokEnd, api.TokName, api.TokUpper, api.TokInt, api.TokText, api.TokVer, 8} {
		w := walk.Where{Tokens: []api.Token{{Kind: kind, Text: "let"}}}
		if w.Sees("let") || w.Pass("let") {
			t.Error(kind)
		}
	}
}

// TestNames: names are read as their kinds and their texts ask, and each once, if that is asked.
func TestNames(t *testing.T) {
	w := on(t, "x X 1.0.0 y x")
	if w.Name() != "x" || w.Upper() != "X" || w.TextOf(api.TokVer, func(s string) bool { return s == "1.0.0" }) != "1.0.0" || w.Another([]string{"x", "X"}, w.Name) != "y" {
		t.Error("names")
	}
	wantStand(t, w, 4, api.Fault{})
	w.Another([]string{"y", "x"}, w.Name)
	wantStand(t, w, 6, api.Fault{Err: api.ErrTwice, At: 12})
	for _, token := range []api.Token{{Kind: api.TokName, Text: "X", At: 5}, {Kind: api.TokName, Text: "in", At: 5}, {Kind: api.TokUpper, Text: "x", At: 5}, {Kind: api.TokWord, Text: "in", At: 5}, {At: 5}} {
		w := walk.Where{Tokens: []api.Token{token}}
		if text := w.Name(); text != "" {
			t.Error(token, text)
		}
		wantStand(t, &w, 1, api.Fault{Err: api.ErrSyntax, At: 5})
	}
}

// TestBetween: what stands between two signs is read once for each that the third one parts.
func TestBetween(t *testing.T) {
	for s, want := range map[string]int{"()": 0, "(x)": 1, "(x, y, z)": 3} {
		w, n := on(t, s), 0
		w.Between("(", ",", ")", func() {
			w.Name()
			n++
		})
		if n != want {
			t.Error(s, n)
		}
		wantStand(t, w, len(w.Tokens)-1, api.Fault{})
	}
	for s, at := range map[string]int{"x": 0, "(": 1, "(x": 2, "(x,": 3, "(x,)": 3, "(x y)": 3, "(,": 1, "(x]": 2} {
		w := on(t, s)
		w.Between("(", ",", ")", func() { w.Name() })
		wantStand(t, w, len(w.Tokens), api.Fault{Err: api.ErrSyntax, At: at})
	}
}

// TestFail: the first fault stays, and behind it nothing is ahead.
func TestFail(t *testing.T) {
	w := on(t, "let x = 1")
	w.Pass("let")
	w.Fail(api.ErrBig, 77)
	w.Fail(api.ErrTwice, 1)
	w.Misfit()
	if end := w.Ahead(); end != (api.Token{At: 9}) || w.Sees("let") || w.Pass("=") || w.Want("=") != "" || w.Name() != "" {
		t.Error(end)
	}
	wantStand(t, w, 5, api.Fault{Err: api.ErrBig, At: 77})
	for at, l := range [][]api.Token{nil, {{Kind: api.TokName, Text: "x", At: 1}}} {
		w := walk.Where{Tokens: l, At: len(l)}
		if end := w.Ahead(); end != (api.Token{At: at}) {
			t.Error(l, end)
		}
	}
}

// TestLeft: the tokens are left as they are.
func TestLeft(t *testing.T) {
	w := on(t, "let x = 1")
	before := slices.Clone(w.Tokens)
	w.Want("let")
	w.Name()
	w.Name()
	if !slices.Equal(w.Tokens, before) {
		t.Error(w.Tokens)
	}
}
