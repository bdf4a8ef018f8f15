package lex_test

import (
	"math"
	"slices"
	"strings"
	"testing"

	"pandect/api"
	"pandect/lex"
)

// everyText hands out all texts of at most n pieces.
func everyText(pieces []string, n int, take func(string)) {
	var grow func(s string, n int)
	grow = func(s string, n int) {
		take(s)
		if n == 0 {
			return
		}
		for _, piece := range pieces {
			grow(s+piece, n-1)
		}
	}
	grow("", n)
}

// bytesOf are the bytes of a text, one by one.
func bytesOf(s string) []string {
	var l []string
	for i := range len(s) {
		l = append(l, s[i:i+1])
	}
	return l
}

// everyByte are all bytes, one by one.
func everyByte() []string {
	b := make([]byte, 256)
	for i := range b {
		b[i] = byte(i)
	}
	return bytesOf(string(b))
}

// pieces are such that few of them, one behind the other, make tokens of each kind and what is nearly one.
var pieces = []string{"let", "a", "X", "_", "0", "1", ".", "1.2.3", "-", ">", "<=", "=", "(", `"`, `\`, "n", "\n", " ", "é", "\xff", "--"}

// samples are sources without a fault, and sources with faults of each kind but ErrBig.
var samples = []string{
	"", " ", "\t\r\n", "--", "-- a", "--\n", "a", "let", "Int", "1", "0", "1.2.3", "1.2.3-a.1", `""`, `"a"`, `"é\n\t\"\\"`, "<", "<=", "->", "(", "|", "a b", "a(b, 1)", "x.a", "q/Id", "let x = 1 -- one\nin x",
	"module p import q pin 1.2.3 range ^1.0.0 type A = {a: Int} let f = fun (x: A) -> x.a export (f, A)",
	"-", "a-", "1-", "_", "#", "é", "\xff", "1.2", "01", "1a", "a -", `"`, `"a`, `"\`, `"\q"`, "\"\n\"", "\"\xff\"", "-- \xff", "-- \xc3", "a \"\xc3", "a\n\"\xff\n\"", strings.Repeat("a", 25), strings.Repeat("1", 16),
}

func sameScan(l []api.Token, f api.Fault, want []api.Token, wantFault api.Fault) bool {
	return f == wantFault && slices.Equal(l, want)
}

// wantModel asks Scan of a source, against the model.
func wantModel(t *testing.T, s string) {
	t.Helper()
	l, f := lex.Scan(s)
	want, wantFault := modelScan(s)
	if !sameScan(l, f, want, wantFault) {
		t.Fatalf("Scan(%.200q) = %.200v, fault %d at %d, want %.200v, fault %d at %d", s, l, int(f.Err), f.At, want, int(wantFault.Err), wantFault.At)
	}
}

// wantTokens asks Scan of a source, whose tokens are told but for the last one.
func wantTokens(t *testing.T, s string, want ...api.Token) {
	t.Helper()
	l, f := lex.Scan(s)
	if want = append(want, api.Token{At: len(s)}); !sameScan(l, f, want, api.Fault{}) {
		t.Errorf("Scan(%.200q) = %.200v, fault %d at %d, want %.200v", s, l, int(f.Err), f.At, want)
	}
}

func wantFault(t *testing.T, s string, err api.Errno, at int) {
	t.Helper()
	if l, f := lex.Scan(s); len(l) != 0 || f != (api.Fault{Err: err, At: at}) {
		t.Errorf("Scan(%.200q): %d tokens, fault %d at %d, want %d at %d", s, len(l), int(f.Err), f.At, int(err), at)
	}
}

func wantFaces(t *testing.T, s string, word, sign, name, upper bool) {
	t.Helper()
	got := [...]bool{lex.Word(s), lex.Sign(s), lex.Name(s), lex.Upper(s)}
	if want := [...]bool{word, sign, name, upper}; got != want {
		t.Errorf("Word, Sign, Name, Upper of %.80q: %v, want %v", s, got, want)
	}
}

// TestWord: P6.1, the words that are kept, and what is nearly one.
func TestWord(t *testing.T) {
	if len(kept) != 20 {
		t.Fatal(len(kept))
	}
	for _, s := range kept {
		wantFaces(t, s, true, false, false, false)
		for _, near := range []string{s + "_", s + "x", s + s, "x" + s, s + "0"} {
			wantFaces(t, near, false, false, true, false)
		}
		wantFaces(t, strings.ToUpper(s), false, false, false, true)
		wantFaces(t, strings.ToUpper(s[:1])+s[1:], false, false, false, true)
		wantFaces(t, s[:1]+strings.ToUpper(s[1:]), false, false, true, false)
		for _, none := range []string{s + " ", " " + s, s + "\x00", s + "\n", s + "-"} {
			wantFaces(t, none, false, false, false, false)
		}
	}
	for _, s := range []string{"int", "any", "text", "bool", "list", "self", "imports", "modul", "i", "t", "fn", "func", "is", "with", "and", "not"} {
		wantFaces(t, s, false, false, true, false)
	}
}

// TestSign: P6.1, the signs, and what is nearly one.
func TestSign(t *testing.T) {
	if len(signs) != 20 {
		t.Fatal(len(signs))
	}
	for _, s := range signs {
		wantFaces(t, s, false, true, false, false)
		wantFaces(t, " "+s, false, false, false, false)
		wantFaces(t, s+" ", false, false, false, false)
	}
	for _, s := range []string{"", "-", "--", "-->", "=>", "==", "<>", "=<", "><", "<-", "->>", "()", "[]", "{}", "<=>", "!", "!=", "#", "$", "%", "&", "'", "\"", "+", ";", "?", "\\", "`", "~", "_", "||", "..", "//", "::", "@@", "\xff", "é"} {
		wantFaces(t, s, false, false, false, false)
	}
}

// TestName: P6.1, what a name and an upper name begin with, what stands behind that, and how long both are.
func TestName(t *testing.T) {
	for _, b := range everyByte() {
		small, capital := b >= "a" && b <= "z", b >= "A" && b <= "Z"
		inside := small || capital || b >= "0" && b <= "9" || b == "_"
		wantFaces(t, b, false, slices.Contains(signs, b), small, capital)
		wantFaces(t, b+"q", false, false, small, capital)
		for _, s := range []string{"a" + b, "a" + b + "q", "aq" + b} {
			wantFaces(t, s, slices.Contains(kept, s), false, inside && !slices.Contains(kept, s), false)
		}
		for _, s := range []string{"A" + b, "A" + b + "q", "Aq" + b} {
			wantFaces(t, s, false, false, false, inside)
		}
	}
	for n := range 40 {
		tail := strings.Repeat("z", n)
		wantFaces(t, "b"+tail, false, false, n < 24, false)
		wantFaces(t, "B"+tail, false, false, false, n < 24)
	}
	for _, s := range []string{"é", "aé", "Aé", "Éa", "a b", "a.b", "a-b", "a\n", strings.Repeat("a", 1<<20), strings.Repeat("A", 1<<20)} {
		wantFaces(t, s, false, false, false, false)
	}
}

// TestFacesAll: P6.1, all short texts, against the forms.
func TestFacesAll(t *testing.T) {
	ask := func(s string) {
		sign := s != "" && formSign.FindString(s) == s
		wantFaces(t, s, formKept.MatchString(s), sign, isNameByModel(s), formUpper.MatchString(s))
	}
	everyText(pieces, 3, ask)
	everyText(everyByte(), 2, ask)
}

// TestScanExamples: P6.2, the chapter's examples.
func TestScanExamples(t *testing.T) {
	wantTokens(t, "let x=1 -- a", api.Token{Kind: api.TokWord, Text: "let"}, api.Token{Kind: api.TokName, Text: "x", At: 4}, api.Token{Kind: api.TokSign, Text: "=", At: 5}, api.Token{Kind: api.TokInt, Text: "1", At: 6})
	wantFault(t, "1.2", api.ErrToken, 0)
	wantTokens(t, "1.2.3-a", api.Token{Kind: api.TokVer, Text: "1.2.3-a"})
}

// TestScanNothing: P6.2, sources without a token.
func TestScanNothing(t *testing.T) {
	for _, s := range []string{"", " ", "\t", "\n", "\r", " \t\r\n \n", "--", "---", "-- a", "--a\n", "--\n--\n", " -- \" \\ ' # é \x00 \x7f\r\t", "-->", "--\"\n--\\", "--" + "\u07ff\uffff\U0010ffff"} {
		wantTokens(t, s)
	}
}

// TestScanKinds: P6.2, one token of each kind, alone and with blanks around.
func TestScanKinds(t *testing.T) {
	of := func(kind int, texts ...string) {
		t.Helper()
		for _, s := range texts {
			wantTokens(t, s, api.Token{Kind: kind, Text: s})
			wantTokens(t, " \t"+s+"\r\n", api.Token{Kind: kind, Text: s, At: 2})
			wantTokens(t, "--\n"+s+" --", api.Token{Kind: kind, Text: s, At: 3})
		}
	}
	of(api.TokWord, kept...)
	of(api.TokSign, signs...)
	of(api.TokName, "a", "z", "aZ_09", "x_", "lets", "let_", "i", "n", "a1", "int", strings.Repeat("z", 24))
	of(api.TokUpper, "A", "Z", "Int", "A_0z", "LET", "Let", strings.Repeat("Z", 24))
	of(api.TokInt, "0", "1", "9", "10", "90", "123456789012345", "999999999999999", "100000000000000")
	of(api.TokVer, "0.0.0", "1.2.3", "10.20.30", "999999.999999.999999", "1.2.3-a", "1.2.3-a.b-c.0", "1.2.3--", "0.0.0-0", "1.2.3-"+strings.Repeat("a", 24), "1.2.3-a--b")
}

// TestScanText: P6.2, quoted texts, whose Text is what they stand for.
func TestScanText(t *testing.T) {
	for s, want := range map[string]string{
		`""`: "", `"a"`: "a", `" "`: " ", `"--"`: "--", `"-- a"`: "-- a", `"\n"`: "\n", `"\t"`: "\t", `"\""`: `"`, `"\\"`: `\`, `"\\n"`: `\n`, `"\\\""`: `\"`, `"a\nb\tc\"d\\e"`: "a\nb\tc\"d\\e", `"n"`: "n", `"'"`: "'", `"/"`: "/",
		"\"\x7f\"": "\x7f", "\"\u0080\"": "\u0080", `"é"`: "é", `"\né\n"`: "\né\n", "\"\u07ff\u0800\ud7ff\ue000\uffff\U00010000\U0010ffff\"": "\u07ff\u0800\ud7ff\ue000\uffff\U00010000\U0010ffff", "\"\ufffd\"": "\ufffd",
	} {
		wantTokens(t, s, api.Token{Kind: api.TokText, Text: want})
		wantTokens(t, "x"+s+s, api.Token{Kind: api.TokName, Text: "x"}, api.Token{Kind: api.TokText, Text: want, At: 1}, api.Token{Kind: api.TokText, Text: want, At: 1 + len(s)})
		wantTokens(t, s+"1", api.Token{Kind: api.TokText, Text: want}, api.Token{Kind: api.TokInt, Text: "1", At: len(s)})
	}
}

// TestScanLongest: P6.2, each token is as long as it can be.
func TestScanLongest(t *testing.T) {
	for s, want := range map[string]string{
		"lets let": "lets let", "in1 in": "in1 in", "letA": "letA", "a1 b_": "a1 b_", "aB": "aB", "<==": "<= =", "<=>": "<= >", ">==": ">= =", "=>=": "= >=", "<<=": "< <=", "<>": "< >", "==": "= =", "->->": "-> ->", "->>": "-> >", "->=": "-> =", "<->": "< ->", "=->": "= ->", "-><=": "-> <=",
		"->-->": "->", "a--": "a", "a->b": "a -> b", "a-->b": "a", "(1)": "( 1 )", "[1,2]": "[ 1 , 2 ]", "f.a(1,x)": "f . a ( 1 , x )", "q/Id": "q / Id", "^1.0.0": "^ 1.0.0", ">=1.0.0<2.0.0": ">= 1.0.0 < 2.0.0", "x.1": "x . 1", "a:Int|b:T": "a : Int | b : T", "@a({})": "@ a ( { } )", "=1": "= 1", "1=2": "1 = 2", "1>2": "1 > 2", "1/2": "1 / 2",
		"1\n2": "1 2", "a\tb\rc\nd e": "a b c d e", "a--b\nc": "a c", "a--b\rc\nd": "a d", "1 --2\n3": "1 3", "->--x\n->": "-> ->", "*,*": "* , *", "1.2.3-a,1.2.3": "1.2.3-a , 1.2.3",
	} {
		l, f := lex.Scan(s)
		var texts []string
		for _, token := range l[:max(len(l)-1, 0)] {
			texts = append(texts, token.Text)
		}
		if got := strings.Join(texts, " "); got != want || f != (api.Fault{}) {
			t.Errorf("Scan(%q): %q, fault %d at %d, want %q", s, got, int(f.Err), f.At, want)
		}
		wantModel(t, s)
	}
}

// TestScanNoToken: P6.2, ErrToken at the beginning of what is no token.
func TestScanNoToken(t *testing.T) {
	for _, s := range []string{
		"-", "- -", "- >", "-a", "-1", "-<", "_", "_a", "#", "!", "$", "%", "&", "'", "+", ";", "?", "\\", "`", "~", "\x00", "\x0b", "\x0c", "\x1f", "\x7f", "\x80", "\xff", "é", "é--", "\u00a0", "\u2028", "\ufeff", "'a'", "!=", "\\n", "\xc3\xa9", "\xff--",
		strings.Repeat("a", 25), strings.Repeat("A", 25), strings.Repeat("let", 9), "a" + strings.Repeat("_", 24), strings.Repeat("z", 4000),
		"00", "01", "007", "1234567890123456", strings.Repeat("1", 16), strings.Repeat("0", 15), "1a", "1x", "0x1", "1e5", "1.", "1.2", "1.2.", "1..2", "1.2.3.", "1.2.3.4", "01.2.3", "1.02.3", "1000000.0.0", "1.2.3-", "1.2.3-01", "1.2.3-a.", "1.2.3-" + strings.Repeat("a", 25), "1-", "1-2", "1--", "1-- a", "1--\n", "1->2", "1->", "1.2.3->", "1.a", "1.2.3a", "1.2.3-a--.", "0-", "0.", "1.2.3.--", "9" + strings.Repeat("0", 4000),
		`"`, `"a`, `"a\"`, `"\`, `"a\`, `"\q"`, `"\N"`, `"\ "`, `"\0"`, `"\x41"`, `"\u0041"`, `"\é"`, `"\'"`, `"\/"`, "\"\n\"", "\"\t\"", "\"\r\"", "\"\x00\"", "\"\x1f\"", "\"a\nb\"", "\"\\\n\"", "\"\\\t\"", "\"é\x01\"", "\"\x01\xff\"", "\"\n\xff\"", "\"\\q\xff\"", "\"\\\xff\"", "\"\\\xc3\xa9\"",
	} {
		wantFault(t, s, api.ErrToken, 0)
		wantFault(t, " "+s, api.ErrToken, 1)
		wantFault(t, "x \"\xc3\xa9\" "+s[:min(len(s), 4080)], api.ErrToken, 7)
		wantFault(t, "--\xc3\xa9\n"+s[:min(len(s), 4080)], api.ErrToken, 5)
	}
	// What is no token stands where the one ahead ends.
	for s, at := range map[string]int{"a-b": 1, "a_b-": 3, "1_": 1, "1_a": 1, "a\u00e9": 1, "a#": 1, "1é": 1, "1\xff": 1, "a\xff": 1, "(-)": 1, "<-": 1, "->-": 2, "-> -a": 3, "x.1.2": 2, "x.01": 2, "a \"": 2, "a\"": 1, `""""""'`: 6, "let\x00": 3, "1.2.3_": 5, "1.2.3+a": 5, "a+b": 1, "a\x0bb": 1, "a \x0c": 2, "=-1": 1, "a 01": 2, "1 2. 3": 2} {
		wantFault(t, s, api.ErrToken, at)
	}
}

// TestScanUTF: P6.2, ErrUTF at a byte of a remark or a quoted text where no code point's bytes begin, and there alone.
func TestScanUTF(t *testing.T) {
	for _, bad := range []string{"\x80", "\xbf", "\xc0\x80", "\xc1\xbf", "\xc2", "\xc3(", "\xe0\x80\x80", "\xe0\x9f\xbf", "\xe2\x82", "\xed\xa0\x80", "\xed\xbf\xbf", "\xf0\x80\x80\x80", "\xf0\x9f\x98", "\xf4\x90\x80\x80", "\xf5\x80\x80\x80", "\xf8\x88\x80\x80\x80", "\xfe", "\xff"} {
		for _, ahead := range []string{"", "a", "é", "\u20ac\U0001f600", "ab \\\\ \\n é"} {
			for _, behind := range []string{"", "a", "\"", "\n", "\n\"", "\\", "\\q\"", "\xff", "\x00"} {
				at := 1 + len(ahead)
				wantFault(t, "\""+ahead+bad+behind, api.ErrUTF, at)
				wantFault(t, "--"+ahead+bad+behind, api.ErrUTF, at+1)
				wantFault(t, "x(\""+ahead+bad+behind, api.ErrUTF, at+2)
				wantFault(t, "x --"+ahead+bad+behind, api.ErrUTF, at+3)
			}
		}
		wantFault(t, bad, api.ErrToken, 0)
		wantFault(t, "--\n"+bad, api.ErrToken, 3)
		wantFault(t, `""`+bad, api.ErrToken, 2)
		wantFault(t, "# --"+bad, api.ErrToken, 0)
		wantFault(t, "# \""+bad, api.ErrToken, 0)
		wantFault(t, "--"+bad+"\n#", api.ErrUTF, 2)
		wantFault(t, "\""+bad+"\"#", api.ErrUTF, 1)
		wantFault(t, "\"\n--"+bad, api.ErrToken, 0)
		wantFault(t, "\"\\a\n--"+bad, api.ErrToken, 0)
	}
	// A remark ends at a byte 10 alone.
	wantFault(t, "--\r\xff", api.ErrUTF, 3)
	wantFault(t, "--\x0b\x0c\u2028\xff", api.ErrUTF, 7)
}

// TestScanBig: P6.2, a source at MaxText and beyond it, whatever else is wrong.
func TestScanBig(t *testing.T) {
	wantTokens(t, strings.Repeat(" ", 4096))
	wantTokens(t, strings.Repeat(" ", 4095)+"a", api.Token{Kind: api.TokName, Text: "a", At: 4095})
	wantTokens(t, "--"+strings.Repeat("a", 4094))
	wantTokens(t, "\""+strings.Repeat("é", 2047)+"\"", api.Token{Kind: api.TokText, Text: strings.Repeat("é", 2047)})
	wantTokens(t, "\""+strings.Repeat(`\n`, 2047)+"\"", api.Token{Kind: api.TokText, Text: strings.Repeat("\n", 2047)})
	wantFault(t, strings.Repeat(" ", 4095)+"\"", api.ErrToken, 4095)
	wantFault(t, "--"+strings.Repeat("a", 4093)+"\xff", api.ErrUTF, 4095)
	for _, s := range []string{strings.Repeat(" ", 4097), strings.Repeat("\xff", 4097), strings.Repeat("#", 5000), "--\xff" + strings.Repeat("\n", 4094), "\"" + strings.Repeat("a", 4095) + "\"", strings.Repeat("(", 1<<20), strings.Repeat("\"\xff", 1<<20)} {
		wantFault(t, s, api.ErrBig, 4096)
	}
	l, f := lex.Scan(strings.Repeat("(", 4096))
	if len(l) != 4097 || f != (api.Fault{}) || l[4095] != (api.Token{Kind: api.TokSign, Text: "(", At: 4095}) || l[4096] != (api.Token{At: 4096}) {
		t.Error(len(l), f)
	}
}

// TestScanAll: P6.2, all short sources of some pieces, and each two bytes within each part of a source, against the model.
func TestScanAll(t *testing.T) {
	everyText(pieces, 4, func(s string) { wantModel(t, s) })
	everyText(bytesOf("a1.-\"\\n\n"), 5, func(s string) { wantModel(t, "a"+s); wantModel(t, `"`+s); wantModel(t, "--"+s) })
	everyText(bytesOf("019.-a"), 5, func(s string) { wantModel(t, "1.2.3"+s); wantModel(t, "1"+s) })
	for _, around := range []string{"", "a|b", "A|", "1|.2.3", "1.2.3-|", `"|"`, `"\|"`, "\"\xc3|\"", "\"\xe2|\x82\"", "--|", "--|\na", "->|", "<|", "-|", " | "} {
		ahead, behind, _ := strings.Cut(around, "|")
		everyText(everyByte(), 2, func(s string) { wantModel(t, ahead+s+behind) })
	}
}

// TestScanRuns: P6.2, how long words and numbers are.
func TestScanRuns(t *testing.T) {
	for n := range 60 {
		for _, b := range bytesOf("aZ_019.-(") {
			for _, first := range []string{"", "a", "Z", "1", "0", "let", "1.2.3-"} {
				wantModel(t, first+strings.Repeat(b, n))
				wantModel(t, "x "+first+strings.Repeat(b, n)+" y")
			}
		}
	}
}

func wantShown(t *testing.T, want string, l ...api.Token) {
	t.Helper()
	if s, err := lex.Show(l...); s != want || err != api.OK {
		t.Errorf("Show(%.200v) = %.200q, error %d, want %.200q", l, s, int(err), want)
	}
}

func wantNotShown(t *testing.T, l ...api.Token) {
	t.Helper()
	if s, err := lex.Show(l...); s != "" || err != api.ErrToken {
		t.Errorf("Show(%.200v) = %.200q, error %d, want ErrToken", l, s, int(err))
	}
}

// TestShow: P6.3, tokens with a blank between each two that are written; At may be any.
func TestShow(t *testing.T) {
	end, x, text := api.Token{}, api.Token{Kind: api.TokName, Text: "x"}, api.Token{Kind: api.TokText, Text: `a"b`}
	wantShown(t, `"a\"b"`, text)
	wantShown(t, "")
	wantShown(t, "", end)
	wantShown(t, "", end, end)
	wantShown(t, "x", end, x, end)
	wantShown(t, "x x", x, x)
	wantShown(t, "x x", end, x, end, end, x, end)
	wantShown(t, `"a\"b" x "a\"b"`, text, end, x, text)
	wantShown(t, `"" ""`, api.Token{Kind: api.TokText}, end, api.Token{Kind: api.TokText})
	wantShown(t, "let X = 1 -> 1.2.3-a < =", api.Token{Kind: api.TokWord, Text: "let"}, api.Token{Kind: api.TokUpper, Text: "X"}, api.Token{Kind: api.TokSign, Text: "="}, api.Token{Kind: api.TokInt, Text: "1"}, api.Token{Kind: api.TokSign, Text: "->"}, api.Token{Kind: api.TokVer, Text: "1.2.3-a"}, api.Token{Kind: api.TokSign, Text: "<"}, api.Token{Kind: api.TokSign, Text: "="})
	for _, at := range []int{0, 1, -1, 4096, 4097, math.MinInt, math.MaxInt} {
		wantShown(t, `x "a\"b"`, api.Token{Kind: api.TokName, Text: "x", At: at}, api.Token{Kind: api.TokText, Text: `a"b`, At: -at}, api.Token{At: at})
	}
}

// TestShowText: P6.3, how quoted texts are written.
func TestShowText(t *testing.T) {
	for text, want := range map[string]string{"": `""`, "a": `"a"`, "\n": `"\n"`, "\t": `"\t"`, `"`: `"\""`, `\`: `"\\"`, `\n`: `"\\n"`, "a\nb\tc\"d\\e": `"a\nb\tc\"d\\e"`, "--": `"--"`, "é": `"é"`, "\x7f": "\"\x7f\"", "\U0010ffff": "\"\U0010ffff\"", " ": `" "`, "n": `"n"`, "/'": `"/'"`} {
		wantShown(t, want, api.Token{Kind: api.TokText, Text: text})
	}
	for _, text := range []string{"\x00", "\x01", "\x08", "\x0b", "\x0c", "\r", "\x1f", "a\r\n", "\xff", "a\xc3", "\xc3", "\xed\xa0\x80", "é\x80", "\"\x00", "\\\xff"} {
		wantNotShown(t, api.Token{Kind: api.TokText, Text: text})
	}
	// What Scan would tell of it alone: that is ErrBig, if it is too long.
	for _, c := range []struct {
		text string
		most int
	}{{"a", 4094}, {"é", 2047}, {"\n", 2047}, {`\`, 2047}, {"\U0010ffff", 1023}} {
		most := strings.Repeat(c.text, c.most)
		if s, err := lex.Show(api.Token{Kind: api.TokText, Text: most}); len(s) < 4094 || err != api.OK {
			t.Errorf("%d times %q: %d bytes, error %d", c.most, c.text, len(s), int(err))
		}
		for _, text := range []string{most + "aaa", most + c.text, strings.Repeat(most, 100)} {
			wantNotShown(t, api.Token{Kind: api.TokText, Text: text})
		}
	}
	// The whole may be longer.
	most := api.Token{Kind: api.TokText, Text: strings.Repeat("a", 4094)}
	wantShown(t, strings.Repeat(`"`+most.Text+`" `, 2)+"x", most, most, api.Token{Kind: api.TokName, Text: "x"})
}

// TestShowWrong: P6.3, what is no token, wherever it stands.
func TestShowWrong(t *testing.T) {
	right := map[int][]string{
		api.TokEnd: {""}, api.TokName: {"a", "lets", "aZ_9"}, api.TokUpper: {"A", "Int"}, api.TokInt: {"0", "12"}, api.TokWord: {"let", "raw"}, api.TokSign: {"(", "->", "<="}, api.TokVer: {"1.2.3", "0.0.0-a"},
	}
	x := api.Token{Kind: api.TokName, Text: "x"}
	for kind := -1; kind <= 9; kind++ {
		for other, texts := range right {
			for _, text := range texts {
				token := api.Token{Kind: kind, Text: text}
				if want, ok := modelShow(token); ok != (kind == other || kind == api.TokText) {
					t.Fatal(token)
				} else if ok {
					wantShown(t, want, token)
					continue
				}
				wantNotShown(t, token)
				wantNotShown(t, x, token)
				wantNotShown(t, token, x)
				wantNotShown(t, x, token, api.Token{})
			}
		}
		if kind == api.TokText {
			continue
		}
		for _, text := range []string{" ", "--", "-- a", "\n", "a b", " a", "a ", "a\n", "a--", "let ", "1 ", " 1", "1.2.3 ", "( ", "()", "((", "-", "_", "#", `""`, `"a"`, "\xff", "\x00", strings.Repeat("a", 25), "1.2", "01", strings.Repeat("a", 5000)} {
			wantNotShown(t, api.Token{Kind: kind, Text: text})
		}
	}
	for _, kind := range []int{-1, 8, 9, 256, 257, 1 << 32, 1<<32 + 1, math.MinInt, math.MaxInt} {
		for _, text := range []string{"", "a", "A", "1", "let", "(", "1.2.3"} {
			wantNotShown(t, api.Token{Kind: kind, Text: text})
		}
	}
}

// TestShowAll: P6.3, tokens of each kind with all short texts, alone and in a row, against the model.
func TestShowAll(t *testing.T) {
	ask := func(text string) {
		for kind := -1; kind <= 8; kind++ {
			token := api.Token{Kind: kind, Text: text, At: len(text) - kind}
			want, ok := modelShow(token)
			wantErr := api.OK
			if !ok {
				want, wantErr = "", api.ErrToken
			}
			if s, err := lex.Show(token); s != want || err != wantErr {
				t.Fatalf("Show(%v) = %q, error %d, want %q, error %d", token, s, int(err), want, int(wantErr))
			}
		}
	}
	everyText(pieces, 3, ask)
	everyText(everyByte(), 2, ask)
}

// bare are a source's tokens without their places.
func bare(l []api.Token) []api.Token {
	l = slices.Clone(l)
	for i := range l {
		l[i].At = 0
	}
	return l
}

// TestBack: P6.4 and P6.5, Scan of Show of what Scan told is it, but for places.
func TestBack(t *testing.T) {
	ask := func(s string) {
		l, f := lex.Scan(s)
		if f != (api.Fault{}) {
			return
		}
		shown, err := lex.Show(l...)
		if err != api.OK {
			t.Fatalf("Show of Scan(%q): error %d", s, int(err))
		}
		back, f := lex.Scan(shown)
		if f != (api.Fault{}) || !slices.Equal(bare(back), bare(l)) {
			t.Fatalf("%q comes back from %q as %v, fault %d at %d", s, shown, back, int(f.Err), f.At)
		}
	}
	everyText(pieces, 4, ask)
	for _, s := range samples {
		ask(s)
	}
}

// TestBackTokens: P6.4, tokens in any row, with TokEnds within.
func TestBackTokens(t *testing.T) {
	some := []api.Token{{}, {Kind: api.TokName, Text: "a"}, {Kind: api.TokUpper, Text: "A", At: -7}, {Kind: api.TokWord, Text: "in"}, {Kind: api.TokInt, Text: "0"}, {Kind: api.TokInt, Text: "15"}, {Kind: api.TokVer, Text: "1.2.3-a"}, {Kind: api.TokText, Text: "\n\"\\t --é"}, {Kind: api.TokText}, {Kind: api.TokSign, Text: "<"}, {Kind: api.TokSign, Text: "="}, {Kind: api.TokSign, Text: "->"}, {Kind: api.TokSign, Text: ">="}, {Kind: api.TokSign, Text: "."}}
	for _, a := range some {
		for _, b := range some {
			for _, c := range some {
				row := []api.Token{a, b, c}
				s, err := lex.Show(row...)
				if err != api.OK {
					t.Fatalf("Show(%v): error %d", row, int(err))
				}
				want := append(slices.DeleteFunc(bare(row), func(t api.Token) bool { return t.Kind == api.TokEnd }), api.Token{})
				if l, f := lex.Scan(s); f != (api.Fault{}) || !slices.Equal(bare(l), want) {
					t.Fatalf("Show(%v) = %q, read as %v, fault %d at %d", row, s, l, int(f.Err), f.At)
				}
			}
		}
	}
}

// moved are tokens and a fault some bytes on.
func moved(l []api.Token, f api.Fault, on int) ([]api.Token, api.Fault) {
	l = slices.Clone(l)
	for i := range l {
		l[i].At += on
	}
	if f != (api.Fault{}) {
		f.At += on
	}
	return l, f
}

// TestBlanks: P6.5, blanks or a remark and a byte 10 ahead of a source, or behind it, change nothing but places.
func TestBlanks(t *testing.T) {
	fill := []string{" ", "\t", "\n", "\r", " \n\t\r ", "--\n", "-- a \" é\n", "---\n ", " -- b\n\n"}
	ask := func(s string) {
		l, f := lex.Scan(s)
		for _, blanks := range fill {
			want, wantFault := moved(l, f, len(blanks))
			if got, fault := lex.Scan(blanks + s); !sameScan(got, fault, want, wantFault) {
				t.Fatalf("%q behind %q: %v, fault %d at %d", s, blanks, got, int(fault.Err), fault.At)
			}
			// A remark right behind a lump, or behind what is no token, makes another lump, or a token, of that.
			if strings.HasPrefix(blanks, "--") && (f != (api.Fault{}) || endsInLump(l, s)) {
				continue
			}
			want = slices.Clone(l)
			if len(want) > 0 {
				want[len(want)-1].At += len(blanks)
			}
			if got, fault := lex.Scan(s + blanks); !sameScan(got, fault, want, f) {
				t.Fatalf("%q ahead of %q: %v, fault %d at %d", s, blanks, got, int(fault.Err), fault.At)
			}
		}
	}
	everyText(pieces, 3, ask)
	for _, s := range samples {
		ask(s)
	}
	wantFault(t, "1"+"--\n", api.ErrToken, 0)
	wantTokens(t, "1.2.3"+"--\n", api.Token{Kind: api.TokVer, Text: "1.2.3--"})
	wantTokens(t, "1"+" --\n", api.Token{Kind: api.TokInt, Text: "1"})
}

// endsInLump tells whether the last byte of a source without a fault is within a lump.
func endsInLump(l []api.Token, s string) bool {
	if len(l) < 2 {
		return false
	}
	last := l[len(l)-2]
	return (last.Kind == api.TokInt || last.Kind == api.TokVer) && last.At+len(last.Text) == len(s)
}

// TestParts: P6.6, of two sources with a byte 10 between the tokens are both's, or the first fault.
func TestParts(t *testing.T) {
	var sources []string
	everyText(pieces, 2, func(s string) { sources = append(sources, s) })
	sources = append(sources, samples...)
	for _, a := range sources {
		first, firstFault := lex.Scan(a)
		for _, b := range sources {
			second, fault := lex.Scan(b)
			want, wantFault := moved(second, fault, len(a)+1)
			if firstFault != (api.Fault{}) {
				want, wantFault = nil, firstFault
			} else if wantFault == (api.Fault{}) {
				want = slices.Concat(first[:len(first)-1], want)
			}
			if got, fault := lex.Scan(a + "\n" + b); !sameScan(got, fault, want, wantFault) {
				t.Fatalf("%q and %q: %v, fault %d at %d", a, b, got, int(fault.Err), fault.At)
			}
		}
	}
}

// TestNothingIsChanged: rule 4, what is handed in is neither changed nor kept, its spare room neither, and what is handed out is new.
func TestNothingIsChanged(t *testing.T) {
	in := append(make([]api.Token, 0, 4), api.Token{Kind: api.TokText, Text: "\n", At: 7}, api.Token{Kind: api.TokName, Text: "x", At: -1}, api.Token{Kind: 99, Text: "no"})
	before := slices.Clone(in[:4])
	s, err := lex.Show(in[:2]...)
	if !slices.Equal(in[:4], before) || s != `"\n" x` || err != api.OK {
		t.Error(in, s, int(err))
	}
	one, _ := lex.Scan("let x = 1")
	for i := range one {
		one[i] = api.Token{Kind: -1}
	}
	wantTokens(t, "let x = 1", api.Token{Kind: api.TokWord, Text: "let"}, api.Token{Kind: api.TokName, Text: "x", At: 4}, api.Token{Kind: api.TokSign, Text: "=", At: 6}, api.Token{Kind: api.TokInt, Text: "1", At: 8})
}
