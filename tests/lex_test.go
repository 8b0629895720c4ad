package tests

import (
	"slices"
	"strings"
	"testing"

	"loop.example/s02863/impl"
)

// bit is a token as it is written, or blanks between tokens, of kind 0.
type bit struct {
	kind int
	text string
}

func blanks(text string) bit { return bit{0, text} }
func name(text string) bit   { return bit{impl.TokName, text} }
func number(text string) bit { return bit{impl.TokNumber, text} }
func quoted(text string) bit { return bit{impl.TokString, text} }
func remark(text string) bit { return bit{impl.TokComment, text} }
func block(text string) bit  { return bit{impl.TokCommentB, text} }

var (
	open  = bit{impl.TokOpen, "{"}
	shut  = bit{impl.TokClose, "}"}
	begin = bit{impl.TokBegin, "["}
	end   = bit{impl.TokEnd, "]"}
	colon = bit{impl.TokColon, ":"}
	comma = bit{impl.TokComma, ","}
)

// checkLex puts the bits together and asks for them again.
func checkLex(t *testing.T, bits ...bit) {
	t.Helper()
	text := ""
	var want []impl.Token
	for _, b := range bits {
		if b.kind != 0 {
			want = append(want, impl.Token{Kind: b.kind, At: len(text), Len: len(b.text)})
		}
		text += b.text
	}
	tokens, code, at := impl.Lex([]byte(text))
	if code != impl.CodeOK || at != 0 || !slices.Equal(tokens, want) {
		t.Errorf("Lex(%.60q): %v, code %d at %d; want %v", text, brief(tokens), code, at, brief(want))
	}
}

func checkNoLex(t *testing.T, text string, wantCode, wantAt int) {
	t.Helper()
	tokens, code, at := impl.Lex([]byte(text))
	if code != wantCode || at != wantAt || len(tokens) != 0 {
		t.Errorf("Lex(%.60q): %v, code %d at %d; want code %d at %d", text, brief(tokens), code, at, wantCode, wantAt)
	}
}

func checkFault(t *testing.T, before, fault string) {
	t.Helper()
	checkNoLex(t, before+fault, impl.CodeSyntax, len(before))
}

func TestTokenKinds(t *testing.T) {
	kinds := []int{impl.TokOpen, impl.TokClose, impl.TokBegin, impl.TokEnd, impl.TokColon, impl.TokComma,
		impl.TokName, impl.TokNumber, impl.TokString, impl.TokComment, impl.TokCommentB}
	if !slices.Equal(kinds, []int{1, 2, 3, 4, 5, 6, 7, 8, 9, 10, 11}) {
		t.Errorf("kinds: %v", kinds)
	}
}

func TestLex(t *testing.T) {
	checkLex(t)
	checkLex(t, open)
	checkLex(t, shut)
	checkLex(t, begin)
	checkLex(t, end)
	checkLex(t, colon)
	checkLex(t, comma)
	checkLex(t, open, shut, begin, end, colon, comma, comma, colon, end, begin, shut, open)
	checkLex(t, open, name("a"), colon, number("1"), comma, quoted(`'b'`), colon, begin, number("-.5"), comma, end, shut)
	checkLex(t, blanks("\ufeff"), open, blanks("\n  "), remark("// é"), blanks("\r\n  "), name("$k_1"), blanks(" "), colon,
		blanks("\u00a0"), block("/* a\n * b */"), number("+0xFf"), comma, blanks("\n"), shut, blanks("\n"))
	checkLex(t, quoted(`"a"`), quoted(`'b'`), name("c"), quoted(`''`), number("1"), quoted(`""`), block("/**/"), number("2"), remark("//"))
	checkLex(t, name("a"), number("+1"))
	checkLex(t, name("a"), number("-1"))
	checkLex(t, name("a"), number(".5"))
	checkLex(t, name("a1"), number("-Infinity"))
	checkLex(t, name("Infinity"), blanks(" "), name("NaN"), blanks(" "), number("+NaN"), blanks(" "), number("-Infinity"))
	checkLex(t, name("null"), comma, name("true"), comma, name("false"), comma, name("truefalse"), comma, name("_"), comma, name("$"))
	checkLex(t, name("x41"), blanks("\t"), name("u0041"), blanks("\t"), name("e1"), blanks("\t"), name("E"))
}

func TestLexBlanks(t *testing.T) {
	all := []string{"\t", "\v", "\f", " ", "\u00a0", "\ufeff", "\n", "\r", "\r\n", "\n\r", "\u2028", "\u2029"}
	for _, b := range append(all, "", strings.Join(all, ""), strings.Repeat("\ufeff", 100)) {
		checkLex(t, blanks(b))
		checkLex(t, blanks(b), name("a"), blanks(b))
		checkLex(t, blanks(b), number("1"), blanks(b+" "), number("2"), blanks(b))
		checkLex(t, blanks(b), begin, blanks(b), end, blanks(b), quoted("'a'"), blanks(b), block("/*b*/"), blanks(b))
		checkFault(t, b+"a"+b, "@")
	}
}

// TestEveryPointAtAToken puts each code point where a token begins, and behind
// a token of each kind that has no end of its own.
func TestEveryPointAtAToken(t *testing.T) {
	marks := map[int]int{'{': impl.TokOpen, '}': impl.TokClose, '[': impl.TokBegin, ']': impl.TokEnd, ':': impl.TokColon, ',': impl.TokComma}
	blank := []int{9, 10, 11, 12, 13, 32, 0xa0, 0xfeff, 0x2028, 0x2029}
	eachPoint(func(point int, form string, _ []int) {
		if point > 0xffff && point%1000 != 0 {
			return
		}
		letter := point < 128 && strings.Contains(letters+"_$", form)
		digit := point < 128 && strings.Contains(digits, form)
		switch {
		case marks[point] != 0:
			checkLex(t, bit{marks[point], form})
			checkLex(t, name("a"), bit{marks[point], form}, number("2"), bit{marks[point], form})
		case slices.Contains(blank, point):
			checkLex(t, blanks(form))
			checkLex(t, name("a"), blanks(form), number("2"), blanks(form))
		case letter:
			checkLex(t, name(form))
			checkLex(t, name("a"+form), blanks(" "), name(form+"1"))
			if form != "e" && form != "E" {
				checkFault(t, " ", "1"+form+"2")
			}
		case digit:
			checkLex(t, number(form))
			checkLex(t, name("a"+form), blanks(" "), number("1"+form))
		default:
			checkFault(t, "", form)
			checkFault(t, " ", form+" ")
			if form != "." && form != "+" && form != "-" {
				checkFault(t, "a", form)
				checkFault(t, "1", form)
				checkFault(t, "'a' ", form)
			}
		}
	})
}

func TestLexNumberRuns(t *testing.T) {
	for _, n := range unsigned {
		for _, sign := range []string{"", "+", "-"} {
			if sign == "" && (n == "Infinity" || n == "NaN") {
				checkLex(t, name(n), comma, name(n))
				continue
			}
			for _, b := range []bit{comma, end, shut, colon, open, blanks(" "), blanks("\n"), quoted("'a'"), quoted(`"a"`), block("/**/"), remark("//")} {
				checkLex(t, number(sign+n), b)
				checkLex(t, b, blanks("\n"), number(sign+n))
			}
			for _, more := range []string{"$", "_", "z", "..", "+", "-", "-1", "+1"} {
				checkFault(t, "[", sign+n+more)
				checkFault(t, "[", sign+n+more+"]")
			}
			checkFault(t, sign+n, "é")
			checkFault(t, sign+n, "@")
			checkFault(t, sign+n, `\`)
		}
	}
}

func TestLexNoNumbers(t *testing.T) {
	runs := []string{
		"+", "-", ".", "..", "...", "+.", "-.", "++", "--", "+-1", "-+1", "++1", "--1",
		"01", "00", "-01", "+00", "0x", "-0X", "0xg", "0x1.", "0x1.5", "0b1", "1e", "1e+", "1E-", "1.e", ".e1", "1e1.5", "1e1e1",
		"1.2.3", "1..2", "1-2", "1+2", "1-", "1a", "1_0", "1$", "1.a", "1.e1.", "0_", "9z", ".a", ".5a", "+a", "-a", "-_", "-$",
		"-infinity", "+Infinit", "-Infinityy", "-NaN1", "+nan", "-Infinity-", "1Infinity", ".Infinity",
	}
	for _, run := range runs {
		for _, before := range []string{"", " ", "[", "{a:", "'1'", "/**/", "//\n", "\ufeff", "a "} {
			for _, behind := range []string{"", " ", "]", ",1", "'", "/", "\n1", "é", "@"} {
				checkFault(t, before, run+behind)
			}
		}
	}
	// A name ends where the run begins.
	checkFault(t, "a", "-b")
	checkFault(t, "a", "+")
	checkFault(t, "a", ".b")
	checkFault(t, "a1", "-")
	checkFault(t, "NaN", "-")
	checkFault(t, "Infinity", "+Infinit")
	// A sign and its number are one run.
	checkFault(t, "", "- 1")
	checkFault(t, "", "-\n1")
	checkFault(t, "", "-/**/1")
	checkFault(t, "", "-'1'")
	checkFault(t, "1 ", "- 1")
}

func TestLexStrings(t *testing.T) {
	for _, c := range inQuotes {
		for _, quote := range []string{`'`, `"`} {
			text := quote + c.text + quote
			checkLex(t, quoted(text))
			checkLex(t, quoted(text), quoted(text))
			checkLex(t, begin, quoted(text), comma, blanks(" "), quoted(text), end)
			checkLex(t, name("a"), quoted(text), name("b"), quoted(text), number("1"), quoted(text))
			checkLex(t, block("/*"+quote+"*/"), quoted(text), remark("//"+quote))
			checkFault(t, text, quote)
			checkFault(t, "", text[:len(text)-1])
			checkFault(t, " ", text[:len(text)-1]+" \n"+quote)
			checkFault(t, " ", text[:len(text)-1]+" \r"+quote)
			checkFault(t, " ", text[:len(text)-1]+`\`)
			checkFault(t, " ", text[:len(text)-1]+`\`+quote)
		}
		checkFault(t, "{", `'`+c.text+`"`)
		checkFault(t, "{", `"`+c.text+`'`)
	}
	// The other quote is a character, and an escaped one too.
	checkLex(t, quoted(`'"'`), name("a"), quoted(`"'"`))
	checkLex(t, quoted(`'\''`), quoted(`"\""`))
	checkLex(t, quoted(`'\\'`), quoted(`"\\"`))
	checkLex(t, quoted(`'//'`), remark("//'"))
	checkLex(t, quoted(`"/*"`), block(`/*"*/`))
}

func TestLexNoStrings(t *testing.T) {
	for _, text := range noCharacters {
		if impl.TextWidth([]byte(text)) < 0 {
			checkNoLex(t, "'"+text+"'", impl.CodeText, 1+strings.IndexFunc(text, func(r rune) bool { return r == 0xfffd }))
			continue
		}
		for _, quote := range []string{`'`, `"`} {
			for _, before := range []string{"", "[", "a", "1", "''", "\u2028"} {
				checkFault(t, before, quote+text+quote)
				checkFault(t, before, quote+text+quote+"]")
				checkFault(t, before, quote+"a"+text)
			}
		}
	}
	// A fault in a string is one at its beginning, whatever comes later.
	checkFault(t, "", `'\1' @`)
	checkFault(t, `'a' `, `"b`+"\n"+`"`)
	checkFault(t, `'a' "b" `, `'c`)
}

func TestLexComments(t *testing.T) {
	texts := []string{"", " ", "a", "/", "//", "*", " é😀", "'", `"`, `\`, "{", "@", "\t\u00a0\ufeff", "/*", "\x00\x7f", "\u2027\u202a", `\u000a`, "\u0085", "1-2"}
	for _, text := range texts {
		checkLex(t, remark("//"+text))
		checkLex(t, name("a"), remark("//"+text))
		checkLex(t, number("1"), remark("//"+text))
		for _, stop := range []string{"\n", "\r", "\r\n", "\n\r", "\u2028", "\u2029", "\n\n"} {
			checkLex(t, remark("//"+text), blanks(stop))
			checkLex(t, remark("//"+text), blanks(stop), remark("//"+text), blanks(stop), name("a"))
			checkLex(t, begin, remark("//"+text), blanks(stop), end)
			checkFault(t, "//"+text+stop, "@")
			checkLex(t, block("/*"+text+stop+text+" */"), name("a"))
		}
		checkLex(t, block("/*"+text+" */"))
		checkLex(t, block("/*"+text+" */"), block("/*"+text+" */"), name("a"), block("/*"+text+" */"), number("1"), block("/*"+text+" */"))
		checkFault(t, "", "/*"+text)
		checkFault(t, "a ", "/*"+text+"\n*")
		checkFault(t, "[1]", "/*"+text+"* /")
		checkFault(t, "/*"+text+" */", "/*"+text)
	}
	// A */ in a comment of one line is nothing, and the ends of a block do not overlap.
	checkLex(t, remark("//*/"))
	checkLex(t, remark("///* */"), blanks("\n"), name("a"))
	checkLex(t, block("/**/"))
	checkLex(t, block("/***/"))
	checkLex(t, block("/****/"))
	checkLex(t, block("/*/*/"))
	checkLex(t, block("/*//*/"))
	checkLex(t, block("/*//*/"), remark("//*/"))
	checkLex(t, block("/* /* */"), name("a"))
	checkLex(t, block("/**/"), remark("//*/"))
	checkFault(t, "", "/*/")
	checkFault(t, "/**/", "*/")
	checkFault(t, "/* /* */", "*/")
	checkFault(t, " ", "/*/ a")
}

func TestLexSlashes(t *testing.T) {
	for _, before := range []string{"", " ", "a", "1", "'a'", "[", "/**/", "//\n"} {
		for _, behind := range []string{"", " ", "a", "1", "\n", "'", " /", " *", "\\", "é", "\n/"} {
			checkFault(t, before, "/"+behind)
		}
	}
	checkFault(t, "", "*")
	checkFault(t, "a", "*/")
}

func TestLexFirstFault(t *testing.T) {
	checkFault(t, "", "@@")
	checkFault(t, "a ", "@ 01 '")
	checkFault(t, "a ", "01 @ '")
	checkFault(t, "a ", "' @ 01")
	checkFault(t, "a ", "/* @ 01 '")
	checkFault(t, "'é' ", "é")
	checkFault(t, "//é😀\n", "é")
	checkFault(t, "\u2028\u2029\u00a0\ufeff", "\u2000")
	checkFault(t, "{a:1,b:[2,'x',\"y\"],/*c*/}", "`a`")
	for _, other := range "!\"#%&'()*;<=>?@\\^`|~\x00\x01\x08\x0e\x1b\x1f\x7f\u0080\u0085\u1680\u180e\u2003\u200b\u2027\u202a\u202f\u205f\u3000\ufffe\U0001f600" {
		checkFault(t, "[1, ", string(other))
	}
}

func TestLexNoText(t *testing.T) {
	for _, c := range badTexts {
		checkNoLex(t, c.text, impl.CodeText, c.at)
		// Bytes that are no UTF-8 are told wherever they stand, and before all else.
		for _, before := range []string{"@", "'", "/*", "// ", "1 ", "01 ", "é", "\n", "{'a':"} {
			checkNoLex(t, before+c.text, impl.CodeText, len(before)+c.at)
		}
	}
}

func TestLexLimit(t *testing.T) {
	full := func(piece string) string { return strings.Repeat(piece, impl.MaxInput/len(piece)) }
	for _, piece := range []string{" ", "{", "a", "1", "[]", "\u00a0", "a ", "/**/", "''", "//a\n", "\\\n", "\xc3\xa9"} {
		for _, more := range []string{" ", "a", "\xff", "@", "'"} {
			checkNoLex(t, full(piece)+more, impl.CodeLimit, impl.MaxInput)
			checkNoLex(t, full(piece)+more+full(piece), impl.CodeLimit, impl.MaxInput)
		}
	}
	checkNoLex(t, full("\xff")+"\xff", impl.CodeLimit, impl.MaxInput)
	checkNoLex(t, full("\xff"), impl.CodeText, 0)
	checkNoLex(t, full(" ")[1:]+"\xff", impl.CodeText, impl.MaxInput-1)
	checkNoLex(t, full(" ")[1:]+"\xc3\xa9", impl.CodeLimit, impl.MaxInput)
	checkNoLex(t, full(" ")[1:]+"@", impl.CodeSyntax, impl.MaxInput-1)
	checkNoLex(t, full("@"), impl.CodeSyntax, 0)
	checkLex(t, blanks(full(" ")))
	checkLex(t, name(full("a")))
	checkLex(t, number(full("1")))
	checkLex(t, number(full("1")[1:]), comma)
	checkLex(t, slices.Repeat([]bit{begin}, impl.MaxInput)...)
	checkLex(t, slices.Repeat([]bit{block("/**/")}, impl.MaxInput/4)...)
	checkLex(t, slices.Repeat([]bit{name("a"), blanks("\n")}, impl.MaxInput/2)...)
	checkLex(t, quoted("'"+full("a")[2:]+"'"))
	checkLex(t, block("/*"+full("*")[4:]+"*/"))
	checkLex(t, remark(full("/")))
	checkFault(t, "", "'"+full("a")[1:])
	checkFault(t, "", "/*"+full("*")[2:])
}

func TestLexMemory(t *testing.T) {
	lex := func(b []byte) []impl.Token { tokens, _, _ := impl.Lex(b); return tokens }
	rest := func(b []byte) []int { _, code, at := impl.Lex(b); return []int{code, at} }
	for _, text := range []string{"", " ", "{a:1}", "a", "1", "-", "1e", "'a'", "'a", `'a\`, "//a", "/*a", "/*a*", "/", "@", "a\xc3", "a\n", "\r"} {
		for _, behind := range []byte{'1', '\'', '*', '/', 0xa9, '\n'} {
			checkMemory(t, "Lex", lex, []byte(text), behind, impl.Token{Kind: -7})
			checkMemory(t, "Lex", rest, []byte(text), behind, -7)
		}
	}
}
