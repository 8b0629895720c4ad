package tests

import (
	"regexp"
	"slices"
	"strings"
	"testing"
	"unicode/utf8"

	"loop.example/s02863/impl"
)

// The forms of blanks and tokens, set down anew; the first that fits is taken.
var (
	blankForm = regexp.MustCompile(`^[\t\v\f \x{a0}\x{feff}\n\r\x{2028}\x{2029}]+`)
	runForm   = regexp.MustCompile(`^[0-9.+-][A-Za-z0-9_$.+-]*`)

	tokenForms = []struct {
		kind int
		form *regexp.Regexp
	}{
		{impl.TokOpen, regexp.MustCompile(`^\{`)},
		{impl.TokClose, regexp.MustCompile(`^\}`)},
		{impl.TokBegin, regexp.MustCompile(`^\[`)},
		{impl.TokEnd, regexp.MustCompile(`^\]`)},
		{impl.TokColon, regexp.MustCompile(`^:`)},
		{impl.TokComma, regexp.MustCompile(`^,`)},
		{impl.TokName, regexp.MustCompile(`^[A-Za-z_$][A-Za-z0-9_$]*`)},
		{impl.TokNumber, runForm},
		{impl.TokString, stringForm},
		{impl.TokComment, regexp.MustCompile(`^//[^\n\r\x{2028}\x{2029}]*`)},
		{impl.TokCommentB, regexp.MustCompile(`^/\*(?s:.*?)\*/`)},
	}
)

// plainToken answers the kind and the length of the token that the text begins
// with; kind 0 where there is none.
func plainToken(text string) (int, int) {
	for _, f := range tokenForms {
		found := f.form.FindString(text)
		if found == "" || f.kind == impl.TokNumber && !numberForm.MatchString(found) {
			continue
		}
		return f.kind, len(found)
	}
	return 0, 0
}

func firstNoText(text string) int {
	for i := 0; i < len(text); {
		r, size := utf8.DecodeRuneInString(text[i:])
		if r == utf8.RuneError && size == 1 {
			return i
		}
		i += size
	}
	return -1
}

func plainLex(text string) ([]impl.Token, int, int) {
	if len(text) > 4000 {
		return nil, impl.CodeLimit, 4000
	}
	if at := firstNoText(text); at >= 0 {
		return nil, impl.CodeText, at
	}
	var tokens []impl.Token
	for at := 0; at < len(text); {
		if blank := blankForm.FindString(text[at:]); blank != "" {
			at += len(blank)
			continue
		}
		kind, size := plainToken(text[at:])
		if kind == 0 {
			return nil, impl.CodeSyntax, at
		}
		tokens = append(tokens, impl.Token{Kind: kind, At: at, Len: size})
		at += size
	}
	return tokens, impl.CodeOK, 0
}

// checkLexRule holds Lex against the plain reading, and its answer against what
// the functions for single forms say: P7.
func checkLexRule(t *testing.T, text string) {
	t.Helper()
	wantTokens, wantCode, wantAt := plainLex(text)
	tokens, code, at := impl.Lex([]byte(text))
	if code != wantCode || at != wantAt || !slices.Equal(tokens, wantTokens) {
		t.Fatalf("Lex(%.80q): %v, code %d at %d; want %v, code %d at %d", text, brief(tokens), code, at, brief(wantTokens), wantCode, wantAt)
	}
	end := 0
	for _, token := range tokens {
		if token.At < end || token.Len < 1 || token.At+token.Len > len(text) {
			t.Fatalf("Lex(%.80q): %v overlaps or leaves the text", text, token)
		}
		end = token.At + token.Len
		form := text[token.At:end]
		switch token.Kind {
		case impl.TokName:
			checkName(t, unitsOf(form), true)
		case impl.TokNumber:
			checkNumber(t, form, true)
		case impl.TokString:
			if _, code := impl.ReadString([]byte(form)); code != impl.CodeOK {
				t.Fatalf("Lex(%.80q): %q is a token, but no string", text, form)
			}
		}
	}
}

func TestShortTexts(t *testing.T) {
	pieces := []string{"{", ",", "a", "1", "0", ".", "-", "e", "'", `"`, `\`, "/", "*", " ", "\n", "\r", "\u2028", "é", "@", "\xc3"}
	eachText(pieces, 4, func(text string) { checkLexRule(t, text) })
}

func TestShortTextsOfComments(t *testing.T) {
	eachText([]string{"/", "*", "//", "/*", "*/", "\n", "\r", "'", "a"}, 5, func(text string) { checkLexRule(t, text) })
}

func TestShortTextsOfRuns(t *testing.T) {
	eachText([]string{"a", "_", "0", "1", ".", "+", "-", "e", " ", "0x", "NaN"}, 5, func(text string) { checkLexRule(t, text) })
}

func TestShortTextsOfStrings(t *testing.T) {
	eachText([]string{"'", `"`, `\`, "0", "x41", "u", "\n", "\r", "a"}, 5, func(text string) { checkLexRule(t, text) })
}

// lexPieces are joined at random; most of them are tokens or blanks, so that a
// text is read far before its first fault, if it has one.
var lexPieces = []string{
	"{", "}", "[", "]", ":", ",", " ", "\t", "\n", "\r", "\r\n", "\u00a0", "\ufeff", "\u2028", "\u2029", "\v", "\f",
	"a", "null", "$_9", "Infinity", "b ", "1", "-1.5e+3", "+0xFF", ".5", "0", "10.", "-NaN", " 7 ",
	"'a'", `"b"`, `'\''`, `"\\"`, `'\0'`, `'\x41'`, `"\u00e9"`, "'\\\r\n'", `'"'`, `"'"`, `'é😀'`, "//c\n", "//é\u2028", "/*d*/", "/* * / \n*/", "/***/",
}

var lexFaults = []string{"@", "é", "'", `"`, "/", "/*", "01", "+", ".", "-", `\`, "*", "//", "1e", "0x", `'\1'`, "'\n'", "\xff", "\xc3", "😀"}

// picker gives numbers in a fixed order that looks like chance.
type picker uint64

func (p *picker) below(n int) int {
	*p ^= *p << 13
	*p ^= *p >> 7
	*p ^= *p << 17
	return int(uint64(*p>>11) % uint64(n))
}

func TestJoinedTexts(t *testing.T) {
	pick := picker(88172645463325252)
	for range 20000 {
		var text strings.Builder
		for range pick.below(30) {
			text.WriteString(lexPieces[pick.below(len(lexPieces))])
		}
		checkLexRule(t, text.String())
		cut := pick.below(text.Len() + 1)
		fault := lexFaults[pick.below(len(lexFaults))]
		checkLexRule(t, text.String()[:cut]+fault+text.String()[cut:])
		checkLexRule(t, text.String()[:cut])
	}
}

func TestLongTexts(t *testing.T) {
	pick := picker(362436069)
	for range 100 {
		var text strings.Builder
		for text.Len() < impl.MaxInput {
			text.WriteString(lexPieces[pick.below(len(lexPieces))])
			text.WriteByte('\n')
		}
		checkLexRule(t, text.String())
		checkLexRule(t, text.String()[:impl.MaxInput])
		checkLexRule(t, text.String()[:impl.MaxInput-1-pick.below(100)])
	}
}
