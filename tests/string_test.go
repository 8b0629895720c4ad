package tests

import (
	"fmt"
	"regexp"
	"slices"
	"strconv"
	"strings"
	"testing"

	"loop.example/s02863/impl"
)

func checkString(t *testing.T, text string, want []int) {
	t.Helper()
	units, code := impl.ReadString([]byte(text))
	if code != impl.CodeOK || !slices.Equal(units, want) {
		t.Errorf("ReadString(%.60q): %x, code %d; want %x", text, brief(units), code, brief(want))
	}
}

func checkNoString(t *testing.T, text string) {
	t.Helper()
	if units, code := impl.ReadString([]byte(text)); code != impl.CodeSyntax || len(units) != 0 {
		t.Errorf("ReadString(%.60q): %x, code %d", text, brief(units), code)
	}
}

// inQuotes are pairs of what stands between quotes and its units; neither has a
// quote that is not escaped.
var inQuotes = []struct {
	text  string
	units []int
}{
	{``, nil},
	{`a`, []int{'a'}},
	{`key 1`, []int{'k', 'e', 'y', ' ', '1'}},
	{"\t\x00\x0b\x1f\x7f", []int{9, 0, 11, 31, 127}},
	{"{}[]:,//*/", []int{'{', '}', '[', ']', ':', ',', '/', '/', '*', '/'}},
	{"é€", []int{0xe9, 0x20ac}},
	{"\u2028a\u2029", []int{0x2028, 'a', 0x2029}},
	{"\ufeff\u00a0\uffff", []int{0xfeff, 0xa0, 0xffff}},
	{"\U00010000😀\U0010ffff", []int{0xd800, 0xdc00, 0xd83d, 0xde00, 0xdbff, 0xdfff}},
	{`\'\"\\\/`, []int{'\'', '"', '\\', '/'}},
	{`\b\f\n\r\t\v`, []int{8, 12, 10, 13, 9, 11}},
	{`bfnrtv`, []int{'b', 'f', 'n', 'r', 't', 'v'}},
	{`\\b\\n`, []int{'\\', 'b', '\\', 'n'}},
	{`\0`, []int{0}},
	{`\0a`, []int{0, 'a'}},
	{`\0\0`, []int{0, 0}},
	{`\0\x30`, []int{0, '0'}},
	{`\0٣`, []int{0, 0x663}},
	{`a\0x`, []int{'a', 0, 'x'}},
	{`\x00\x41\x7f\xff`, []int{0, 'A', 127, 255}},
	{`\xab\xAB\xaB\xCd\xeF`, []int{0xab, 0xab, 0xab, 0xcd, 0xef}},
	{`\x411`, []int{'A', '1'}},
	{`\u0000\u0041\u00e9\u20ac\uffff`, []int{0, 'A', 0xe9, 0x20ac, 0xffff}},
	{`\uabcd\uABCD\uaBcD\uEf09`, []int{0xabcd, 0xabcd, 0xabcd, 0xef09}},
	{`\u00411`, []int{'A', '1'}},
	{`\ud800\udfff`, []int{0xd800, 0xdfff}},
	{`\udfff\ud800`, []int{0xdfff, 0xd800}},
	{`\ud83d😀`, []int{0xd83d, 0xd83d, 0xde00}},
	{`\u2028\u000a\u0022\u0027\u005c`, []int{0x2028, 10, '"', '\'', '\\'}},
	{"\\\n", nil},
	{"\\\r", nil},
	{"\\\r\n", nil},
	{"\\\u2028", nil},
	{"\\\u2029", nil},
	{"a\\\nb\\\rc\\\r\nd\\\u2028e\\\u2029f", []int{'a', 'b', 'c', 'd', 'e', 'f'}},
	{"\\\r\\\n", nil},
	{"\\\n\\\r", nil},
	{"\\\r\\\r\n\\\n", nil},
	{"\\\u2028\u2028\\\u2029\u2029", []int{0x2028, 0x2029}},
	{"\\\\\\\n", []int{'\\'}},
	{`\a\q\A\X\U\N\B`, []int{'a', 'q', 'A', 'X', 'U', 'N', 'B'}},
	{`\ \{\_\$\.`, []int{' ', '{', '_', '$', '.'}},
	{`\é\€\😀`, []int{0xe9, 0x20ac, 0xd83d, 0xde00}},
	{"\\\t\\\x00\\\x7f\\\u00a0\\\ufeff\\\u202a\\\u2027", []int{9, 0, 127, 0xa0, 0xfeff, 0x202a, 0x2027}},
	{`\٣`, []int{0x663}},
}

// noCharacters stand for nothing between quotes, whatever is before or behind.
var noCharacters = []string{
	"\n", "\r", "\r\n", "a\nb", "\\\n\n", "\\\n\r", "\\\r\r", "\\\r\n\n", "\\\r\n\r", "\\\\\n", "\\\u2028\n", "\\ \n",
	`\1`, `\2`, `\3`, `\4`, `\5`, `\6`, `\7`, `\8`, `\9`,
	`\00`, `\01`, `\09`, `\012`, `a\0\08`, `\\\01`,
	`\x`, `\x4`, `\x4g`, `\xg4`, `\x 4`, `\x+4`, `\x-4`, `\x4\x41`, `\xé4`, `\x4٣`, `\x0x`, `\x４1`,
	`\u`, `\u1`, `\u12`, `\u123`, `\u123g`, `\ug123`, `\u12g3`, `\u1g23`, `\u{41}`, `\u 123`, `\u+123`, `\u-123`, `\u12\u1234`, `\u123é`, `\u0x12`,
	"\xff", "a\x80", "\xc3", "\xed\xa0\x80", "\xf0\x9f\x98", "\\\xff", "\\\xc3", "\\0\xff", "\\x\xff1", "\\x1\xff", "\\u123\xff", "\\\r\xff", "\\\xe2\x80", "\\\xed\xa0\x80",
}

func TestReadString(t *testing.T) {
	for _, c := range inQuotes {
		for _, quote := range []string{`'`, `"`} {
			checkString(t, quote+c.text+quote, c.units)
			for _, d := range inQuotes {
				checkString(t, quote+c.text+d.text+quote, slices.Concat(c.units, d.units))
			}
		}
		checkString(t, `'`+c.text+`"`+c.text+`'`, slices.Concat(c.units, []int{'"'}, c.units))
		checkString(t, `"`+c.text+`'`+c.text+`"`, slices.Concat(c.units, []int{'\''}, c.units))
	}
}

func TestReadStringOfNoString(t *testing.T) {
	checkNoString(t, "")
	for _, c := range inQuotes {
		checkNoString(t, c.text)
		for _, quote := range []string{`'`, `"`} {
			checkNoString(t, quote+c.text)
			checkNoString(t, c.text+quote)
			checkNoString(t, quote+c.text+`\`)
			checkNoString(t, quote+c.text+`\`+quote)
			for _, other := range []string{" ", "a", "\n", "\x00", "'", `"`, "\\", ",", "\xff", "é", "//"} {
				checkNoString(t, quote+c.text+quote+other)
				if other != quote {
					checkNoString(t, other+quote+c.text+quote)
				}
			}
		}
		checkNoString(t, `'`+c.text+`"`)
		checkNoString(t, `"`+c.text+`'`)
	}
	for _, quote := range []string{"`", "“", "‘", "/", "\\'", "\x00"} {
		checkNoString(t, quote+"a"+quote)
	}
	for _, text := range noCharacters {
		for _, quote := range []string{`'`, `"`} {
			for _, side := range []string{"", "a", " ", `\n`, "😀", "\\\n"} {
				checkNoString(t, quote+side+text+quote)
				checkNoString(t, quote+side+text)
				checkNoString(t, quote+text+" "+side+quote)
			}
		}
	}
}

// eachPoint goes through all code points that are no surrogates.
func eachPoint(f func(point int, form string, units []int)) {
	for p := 0; p <= 0x10ffff; p++ {
		if p >= 0xd800 && p <= 0xdfff {
			continue
		}
		units := []int{p}
		if p > 0xffff {
			units = []int{0xd800 + (p-0x10000)>>10, 0xdc00 + (p-0x10000)&0x3ff}
		}
		f(p, string(rune(p)), units)
	}
}

func TestEveryPointInAString(t *testing.T) {
	eachPoint(func(point int, form string, units []int) {
		switch point {
		case '\n', '\r', '\\', '\'':
			checkNoString(t, `'`+form+`'`)
		default:
			checkString(t, `'`+form+`'`, units)
		}
		switch point {
		case '\n', '\r', '\\', '"':
			checkNoString(t, `"`+form+`"`)
		default:
			checkString(t, `"`+form+`"`, units)
		}
	})
}

func TestEveryPointBehindABackslash(t *testing.T) {
	named := map[int]int{'0': 0, 'b': 8, 'f': 12, 'n': 10, 'r': 13, 't': 9, 'v': 11}
	eachPoint(func(point int, form string, units []int) {
		text := `'a\` + form + `'`
		unit, isNamed := named[point]
		switch {
		case isNamed:
			checkString(t, text, []int{'a', unit})
		case point >= '1' && point <= '9', point == 'x', point == 'u':
			checkNoString(t, text)
		case point == '\n', point == '\r', point == 0x2028, point == 0x2029:
			checkString(t, text, []int{'a'})
		default:
			checkString(t, text, append([]int{'a'}, units...))
		}
	})
}

func TestEveryHexEscape(t *testing.T) {
	for u := range 65536 {
		for _, form := range []string{`"\u%04x"`, `'\u%04X'`} {
			checkString(t, fmt.Sprintf(form, u), []int{u})
		}
		if u < 256 {
			for _, form := range []string{`"\x%02x"`, `'\x%02X'`} {
				checkString(t, fmt.Sprintf(form, u), []int{u})
			}
		}
	}
}

// TestHexDigits puts every byte at every place of a digit.
func TestHexDigits(t *testing.T) {
	for c := range 128 {
		value, err := strconv.ParseUint(string(rune(c)), 16, 8)
		for _, escape := range []string{`\x00`, `\u0000`} {
			for i := 2; i < len(escape); i++ {
				text := `"` + escape[:i] + string(rune(c)) + escape[i+1:] + `"`
				if err != nil {
					checkNoString(t, text)
				} else {
					checkString(t, text, []int{int(value) << (4 * (len(escape) - 1 - i))})
				}
			}
		}
	}
}

func TestEveryPointBehindZero(t *testing.T) {
	eachPoint(func(point int, form string, units []int) {
		switch {
		case point >= '0' && point <= '9', point == '\n', point == '\r', point == '\\', point == '"':
			checkNoString(t, `"\0`+form+`"`)
		default:
			checkString(t, `"\0`+form+`"`, append([]int{0}, units...))
		}
	})
}

// stringForm is the form of a string from its beginning, set down anew. An
// escaped 0, or a row of them, stands at the end or before what is no digit.
var stringForm = regexp.MustCompile(`^(?:` + formBetween(`'`) + `|` + formBetween(`"`) + `)`)

func formBetween(quote string) string {
	character := `(?:[^\\\n\r0-9` + quote + `]|\\\r\n|\\[^0-9xu]|\\x[0-9A-Fa-f]{2}|\\u[0-9A-Fa-f]{4})`
	return quote + `(?:[0-9]|(?:\\0)*` + character + `)*(?:\\0)*` + quote
}

var characterForm = regexp.MustCompile(`(?s)\\\r\n|\\x..|\\u....|\\.|.`)

// plainString reads a string by its form, if the text is one; it must be UTF-8.
func plainString(text string) ([]int, bool) {
	if len(stringForm.FindString(text)) != len(text) || text == "" {
		return nil, false
	}
	var units []int
	for _, c := range characterForm.FindAllString(text[1:len(text)-1], -1) {
		switch {
		case c == `\0`:
			units = append(units, 0)
		case strings.HasPrefix(c, `\x`), strings.HasPrefix(c, `\u`):
			unit, _ := strconv.ParseInt(c[2:], 16, 32)
			units = append(units, int(unit))
		case strings.HasPrefix(c, `\`) && strings.ContainsAny(c, "\n\r\u2028\u2029"):
		case strings.HasPrefix(c, `\`) && strings.Contains("bfnrtv", c[1:]):
			units = append(units, int("\b\f\n\r\t\v"[strings.Index("bfnrtv", c[1:])]))
		case strings.HasPrefix(c, `\`):
			units = append(units, unitsOf(c[1:])...)
		default:
			units = append(units, unitsOf(c)...)
		}
	}
	return units, true
}

func checkStringRule(t *testing.T, text string) {
	t.Helper()
	if units, is := plainString(text); is {
		checkString(t, text, units)
	} else {
		checkNoString(t, text)
	}
}

func TestShortStrings(t *testing.T) {
	pieces := []string{`'`, `"`, `\`, "0", "1", "x", "u", "41", "b", "/", "\n", "\r", "\u2028", "é", "😀"}
	eachText(pieces, 4, func(text string) {
		checkStringRule(t, `'`+text+`'`)
		checkStringRule(t, `"`+text)
		checkStringRule(t, text)
	})
	eachText([]string{`\`, "0", "\n", "\r", "u00", "x4", "'", "a"}, 5, func(text string) {
		checkStringRule(t, `'`+text+`'`)
		checkStringRule(t, `"`+text+`"`)
	})
}

func TestLongStrings(t *testing.T) {
	// ReadString has no limit of its own.
	text := strings.Repeat(`a\x41\u00e9\'\"\0 😀`+"\\\r\n", 20000)
	units := slices.Repeat([]int{'a', 'A', 0xe9, '\'', '"', 0, ' ', 0xd83d, 0xde00}, 20000)
	checkString(t, `'`+text+`'`, units)
	checkNoString(t, `'`+text+`"`)
	checkNoString(t, `'`+text)
}

func checkQuote(t *testing.T, units []int, want string) {
	t.Helper()
	if b, code := impl.QuoteUnits(units); code != impl.CodeOK || string(b) != want {
		t.Errorf("QuoteUnits(%x): %q, code %d; want %q", brief(units), brief(b), code, want)
	}
	checkString(t, want, units)
}

func TestQuoteUnits(t *testing.T) {
	cases := []struct {
		units []int
		want  string
	}{
		{nil, `""`},
		{[]int{}, `""`},
		{[]int{'a', 'B', '1', ' ', '~'}, `"aB1 ~"`},
		{[]int{'"', '\\', '/', '\''}, `"\"\\/'"`},
		{[]int{'\\', 'n', '\\', '\\', '"'}, `"\\n\\\\\""`},
		{[]int{8, 12, 10, 13, 9}, `"\b\f\n\r\t"`},
		{[]int{0, 1, 7, 11, 14, 15, 16, 31}, `"\u0000\u0001\u0007\u000b\u000e\u000f\u0010\u001f"`},
		{[]int{0, '1'}, `"\u00001"`},
		{[]int{13, 10}, `"\r\n"`},
		{[]int{126, 127, 128, 159, 160}, "\"~\\u007f\u0080\u009f\u00a0\""},
		{[]int{0x7ff, 0x800}, "\"\u07ff\u0800\""},
		{[]int{0x2027, 0x2028, 0x2029, 0x202a}, "\"\u2027\\u2028\\u2029\u202a\""},
		{[]int{0xd7ff, 0xe000, 0xfeff, 0xfffd, 0xfffe, 0xffff}, "\"\ud7ff\ue000\ufeff\ufffd\ufffe\uffff\""},
		{[]int{0xd800}, `"\ud800"`},
		{[]int{0xdbff}, `"\udbff"`},
		{[]int{0xdc00}, `"\udc00"`},
		{[]int{0xdfff}, `"\udfff"`},
		{[]int{0xd800, 0xdc00}, "\"\U00010000\""},
		{[]int{0xdbff, 0xdfff}, "\"\U0010ffff\""},
		{[]int{0xd83d, 0xde00}, `"😀"`},
		{[]int{0xde00, 0xd83d}, `"\ude00\ud83d"`},
		{[]int{0xd83d, 0xd83d, 0xde00}, `"\ud83d😀"`},
		{[]int{0xd83d, 0xde00, 0xde00}, `"😀\ude00"`},
		{[]int{0xd83d, 'a', 0xde00}, `"\ud83da\ude00"`},
		{[]int{0xd83d, '"', 0xde00, '\\'}, `"\ud83d\"\ude00\\"`},
		{[]int{0xdead, 0xdbef}, `"\udead\udbef"`},
	}
	for _, c := range cases {
		checkQuote(t, c.units, c.want)
	}
}

func TestQuoteUnitsOfNoUnits(t *testing.T) {
	for _, x := range []int{-1, -'a', -1 << 63, 65536, 65536 + 'a', 0x1f600, 1114111, 1 << 32, 1<<32 + 'a', 1<<63 - 1} {
		for _, units := range [][]int{{x}, {'a', x}, {x, 'a'}, {0xd83d, x}, {x, 0xde00}, {0xd83d, 0xde00, x}} {
			if b, code := impl.QuoteUnits(units); code != impl.CodeBad || len(b) != 0 {
				t.Errorf("QuoteUnits(%x): %q, code %d", units, b, code)
			}
		}
	}
}

// plainQuote is the answer for one unit that is no half of a pair.
func plainQuote(u int) string {
	if i := slices.Index([]int{'"', '\\', 8, 12, 10, 13, 9}, u); i >= 0 {
		return `\` + `"\bfnrt`[i:i+1]
	}
	if u < 32 || u == 127 || u == 0x2028 || u == 0x2029 || u >= 0xd800 && u <= 0xdfff {
		return fmt.Sprintf(`\u%04x`, u)
	}
	return string(rune(u))
}

func TestEveryUnitQuoted(t *testing.T) {
	for u := range 65536 {
		checkQuote(t, []int{u}, `"`+plainQuote(u)+`"`)
		checkQuote(t, []int{'a', u, '0'}, `"a`+plainQuote(u)+`0"`)
	}
}

func TestEveryPairQuoted(t *testing.T) {
	eachPoint(func(point int, form string, units []int) {
		if point > 0xffff {
			checkQuote(t, units, `"`+form+`"`)
		}
	})
}

// TestQuotedAndRead is P6 over all lists of four of the units at which a rule
// begins or ends to hold.
func TestQuotedAndRead(t *testing.T) {
	edges := []int{0, 8, 10, 11, 31, 32, '"', '\'', '/', '0', '1', '\\', 'b', 'u', 'x', 127, 128, 0x2028, 0x2029, 0xd800, 0xdbff, 0xdc00, 0xdfff, 0xe000, 0xffff}
	u := make([]int, 4)
	for _, u[0] = range edges {
		for _, u[1] = range edges {
			for _, u[2] = range edges {
				for _, u[3] = range edges {
					b, code := impl.QuoteUnits(u)
					if code != impl.CodeOK {
						t.Fatalf("QuoteUnits(%x): code %d", u, code)
					}
					again, code := impl.ReadString(b)
					if code != impl.CodeOK || !slices.Equal(again, u) {
						t.Fatalf("ReadString(QuoteUnits(%x)): %x, code %d", u, again, code)
					}
				}
			}
		}
	}
}

func TestStringMemory(t *testing.T) {
	read := func(b []byte) []int { u, _ := impl.ReadString(b); return u }
	quote := func(u []int) []byte { b, _ := impl.QuoteUnits(u); return b }
	for _, text := range []string{"", `''`, `"abc"`, `'a\x41\u0041\n\0'`, `"😀"`, `"a`, `'a\`, `'a\0`, `'\x4`, `'\u004`, "'\\\r", "'\xc3", `'a'b`} {
		for _, behind := range []byte{'\'', '"', '1', '\n', 0xa9} {
			checkMemory(t, "ReadString", read, []byte(text), behind, -7)
		}
	}
	for _, units := range [][]int{nil, {'a', 'b'}, {0xd83d, 0xde00}, {0xd83d}, {0, '"', 0x2028}, {'a', 65536}} {
		checkMemory(t, "QuoteUnits", quote, units, 0xde00, '!')
	}
}
