package lex_test

import (
	"regexp"
	"strings"
	"unicode/utf8"

	"pandect/api"
)

// What the chapter lists.
var (
	kept  = strings.Fields("module import pin range type opaque let in export fun if then else case of as new raw true false")
	signs = strings.Fields("( ) { } [ ] < > <= >= = ^ * , : . / @ | ->")
)

// The chapter's words as forms, each of what begins a text.
var (
	formBlank   = regexp.MustCompile(`^[\x09\x0a\x0d\x20]`)
	formRun     = regexp.MustCompile(`^[a-zA-Z][a-zA-Z0-9_]*`)
	formLump    = regexp.MustCompile(`^[0-9][0-9a-zA-Z.-]*`)
	formSign    = regexp.MustCompile(`^(->|<=|>=|[(){}\[\]<>=^*,:./@|])`)
	formKept    = regexp.MustCompile(`^(module|import|pin|range|type|opaque|let|in|export|fun|if|then|else|case|of|as|new|raw|true|false)$`)
	formName    = regexp.MustCompile(`^[a-z][a-zA-Z0-9_]{0,23}$`)
	formUpper   = regexp.MustCompile(`^[A-Z][a-zA-Z0-9_]{0,23}$`)
	formNumber  = regexp.MustCompile(`^(0|[1-9][0-9]{0,14})$`)
	formVersion = regexp.MustCompile(`^(0|[1-9][0-9]{0,5})\.(0|[1-9][0-9]{0,5})\.(0|[1-9][0-9]{0,5})(-((0|[1-9][0-9]*|[0-9]*[A-Za-z-][0-9A-Za-z-]*)(\.(0|[1-9][0-9]*|[0-9]*[A-Za-z-][0-9A-Za-z-]*))*))?$`)
)

func isVersion(s string) bool {
	m := formVersion.FindStringSubmatch(s)
	return m != nil && len(m[5]) <= 24
}

func isNameByModel(s string) bool { return formName.MatchString(s) && !formKept.MatchString(s) }

// modelScan tells what Scan is to answer, code point by code point.
func modelScan(s string) ([]api.Token, api.Fault) {
	if len(s) > 4096 {
		return nil, api.Fault{Err: api.ErrBig, At: 4096}
	}
	var l []api.Token
	for at := 0; at < len(s); {
		rest := s[at:]
		switch {
		case formBlank.MatchString(rest):
			at++
		case strings.HasPrefix(rest, "--"):
			n, bad := modelRemark(rest)
			if bad {
				return nil, api.Fault{Err: api.ErrUTF, At: at + n}
			}
			at += n
		case rest[0] == '"':
			text, n, err := modelQuoted(rest)
			if err == api.ErrUTF {
				return nil, api.Fault{Err: err, At: at + n}
			}
			if err != api.OK {
				return nil, api.Fault{Err: err, At: at}
			}
			l = append(l, api.Token{Kind: api.TokText, Text: text, At: at})
			at += n
		default:
			text, kind := modelPlain(rest)
			if kind == api.TokEnd {
				return nil, api.Fault{Err: api.ErrToken, At: at}
			}
			l = append(l, api.Token{Kind: kind, Text: text, At: at})
			at += len(text)
		}
	}
	return append(l, api.Token{At: len(s)}), api.Fault{}
}

// modelRemark tells how long a remark is, or where no code point's bytes begin in it.
func modelRemark(s string) (int, bool) {
	at := 0
	for at < len(s) && s[at] != '\n' {
		r, n := utf8.DecodeRuneInString(s[at:])
		if r == utf8.RuneError && n == 1 {
			return at, true
		}
		at += n
	}
	return at, false
}

// modelQuoted tells what a quoted text stands for, and how long it is, or where no code point's bytes begin in it.
func modelQuoted(s string) (string, int, api.Errno) {
	text := ""
	for at := 1; at < len(s); {
		if s[at] == '"' {
			return text, at + 1, api.OK
		}
		if s[at] == '\\' {
			meant, ok := map[string]string{"n": "\x0a", "t": "\x09", `"`: `"`, `\`: `\`}[s[at+1:min(at+2, len(s))]]
			if !ok {
				break
			}
			text += meant
			at += 2
			continue
		}
		r, n := utf8.DecodeRuneInString(s[at:])
		if r == utf8.RuneError && n == 1 {
			return "", at, api.ErrUTF
		}
		if r < 32 {
			break
		}
		text += s[at : at+n]
		at += n
	}
	return "", 0, api.ErrToken
}

// modelPlain tells a token that is no quoted text, and its kind: 0, if there is none.
func modelPlain(s string) (string, int) {
	if run := formRun.FindString(s); run != "" {
		switch {
		case formKept.MatchString(run):
			return run, api.TokWord
		case formName.MatchString(run):
			return run, api.TokName
		case formUpper.MatchString(run):
			return run, api.TokUpper
		}
		return "", 0
	}
	if lump := formLump.FindString(s); lump != "" {
		switch {
		case formNumber.MatchString(lump):
			return lump, api.TokInt
		case isVersion(lump):
			return lump, api.TokVer
		}
		return "", 0
	}
	if sign := formSign.FindString(s); sign != "" {
		return sign, api.TokSign
	}
	return "", 0
}

// modelShow tells what Show is to answer of one token.
func modelShow(t api.Token) (string, bool) {
	switch t.Kind {
	case api.TokEnd:
		return "", t.Text == ""
	case api.TokName:
		return t.Text, isNameByModel(t.Text)
	case api.TokUpper:
		return t.Text, formUpper.MatchString(t.Text)
	case api.TokWord:
		return t.Text, formKept.MatchString(t.Text)
	case api.TokInt:
		return t.Text, formNumber.MatchString(t.Text)
	case api.TokVer:
		return t.Text, isVersion(t.Text)
	case api.TokSign:
		return t.Text, t.Text != "" && formSign.FindString(t.Text) == t.Text
	case api.TokText:
		text := `"` + strings.NewReplacer(`\`, `\\`, `"`, `\"`, "\n", `\n`, "\t", `\t`).Replace(t.Text) + `"`
		bad := strings.ContainsFunc(t.Text, func(r rune) bool { return r < 32 && r != 9 && r != 10 })
		return text, utf8.ValidString(t.Text) && !bad && len(text) <= 4096
	}
	return "", false
}
