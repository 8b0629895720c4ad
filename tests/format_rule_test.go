package tests

import (
	"slices"
	"strconv"
	"strings"
	"testing"

	"loop.example/s02863/impl"
)

// sizes are widths and indents at which trees of some lines have other layouts.
var sizes = []struct{ width, indent int }{
	{0, 0}, {0, 2}, {7, 1}, {15, 2}, {30, 4}, {60, impl.MaxIndent}, {80, 2}, {impl.MaxWidth, 0}, {impl.MaxWidth, 2},
}

// checkReadBack is P9 for one tree and size. It answers the text, or none where
// that is too long to be read.
func checkReadBack(t *testing.T, tree impl.Tree, width, indent int) []byte {
	t.Helper()
	text := checkFormatTree(t, tree, width, indent)
	if len(text) > impl.MaxInput {
		return nil
	}
	again, code, at := impl.ParseTree(text)
	if code != impl.CodeOK || at != 0 || !sameTree(again, tree) {
		t.Fatalf("ParseTree(%.300q): %.300s, code %d at %d; want %.300s", text, showTree(again), code, at, showTree(tree))
	}
	return text
}

// checkAgain is P9 and P10 for one tree, with all pairs of sizes.
func checkAgain(t *testing.T, tree impl.Tree) {
	t.Helper()
	texts := make([]string, len(sizes))
	for i, s := range sizes {
		texts[i] = string(checkReadBack(t, tree, s.width, s.indent))
	}
	for _, from := range slices.Compact(slices.Sorted(slices.Values(texts))) {
		for i, s := range sizes {
			if from != "" && texts[i] != "" {
				checkFormat(t, from, s.width, s.indent, texts[i])
			}
		}
	}
}

func TestFormatReadsBack(t *testing.T) {
	for _, place := range places {
		checkAgain(t, place.put())
		for _, text := range []string{"", " ", "a", " é😀 ", "/", "//", "/*", "*", "**", "\\", "'", `"`, "[", "]}", ",", ":", "@", "\t\v\f\x00\x7f", "\u00a0\ufeff", "\u2027\u202a"} {
			checkAgain(t, place.put(lineComment(text)))
			checkAgain(t, place.put(blockComment(text)))
			checkAgain(t, place.put(blockComment(text), lineComment(text), lineComment(text), blockComment("\n"+text+"\n")))
		}
		for _, text := range []string{"*/", "a*/b", "/*/"} {
			checkAgain(t, place.put(lineComment(text), lineComment("*/"+text)))
		}
		for _, text := range []string{"\n", "\n\n", "a\n", "\na", "a\nb", " a \n  b\n", "*\n/", "\n*", "/\n", "\n/", "//\n//", "\n\n\nx\n\n"} {
			checkAgain(t, place.put(blockComment(text)))
			checkAgain(t, place.put(blockComment(text), blockComment(text), lineComment("")))
		}
	}
	for _, form := range unsigned {
		for _, sign := range []string{"", "+", "-"} {
			checkAgain(t, whole(array(numeral(sign+form), object(member("a", numeral(sign+form))))))
		}
	}
	for _, odd := range oddUnits {
		checkAgain(t, whole(object(keyOf(textOf(odd.units...), odd.units...), keyOf(array(textOf(odd.units...)), odd.units...))))
	}
	for _, name := range names {
		checkAgain(t, whole(object(member(name, textOf(unitsOf(name)...)), member(name, array()))))
	}
	for _, depth := range []int{1, 2, 3, 50, impl.MaxDepth} {
		checkAgain(t, whole(nested(depth)))
		checkAgain(t, whole(nested(depth, null, led(yes, blocks("ab")...)), blocks("c")...))
	}
}

// TestFormatEveryGap has comments in each gap of small texts.
func TestFormatEveryGap(t *testing.T) {
	for _, source := range []string{"1", "[ ]", "[ 1 ]", "[ 1 , ]", "[ 1 , 2 ]", "{ }", "{ a : 1 }", "{ a : [ ] , }", "[ { } , [ ] ]", "{ a : 1 , b : { } }", "[ [ 1 ] , { b : 2 } ]"} {
		gaps := strings.Count(source, " ") + 2
		for chosen := range 1 << gaps {
			if gaps > 6 && chosen%31 > 0 {
				continue
			}
			written := ""
			for i, token := range strings.Split(source, " ") {
				written += strings.Repeat("#", chosen>>i&1) + token
			}
			written += strings.Repeat("##", chosen>>(gaps-1)&1)
			tree, code, _ := impl.ParseTree([]byte(numbered(written)))
			if code != impl.CodeOK {
				t.Fatalf("%q: code %d", written, code)
			}
			checkAgain(t, tree)
			checkStyles(t, numbered(written), tree)
		}
	}
}

// checkStyles is P11 for a text and its tree.
func checkStyles(t *testing.T, source string, tree impl.Tree) {
	t.Helper()
	for _, s := range sizes[1:8:8] {
		checkFormat(t, source, s.width, s.indent, plainFormat(tree, s.width, s.indent))
	}
}

// treeGrower makes valid trees that no text need have been.
type treeGrower struct {
	pick *picker
}

var lineTexts = []string{"", "", " x", "*/", "/*", "//", "\\", " é😀", "\t", "a*/b", "'"}
var blockTexts = []string{"", "", " x ", "\n", "\n\n", "a\nb", "\n * a\n * b\n ", "*", "/", "*\n/", "//", "é\n", "\n\\"}

func (g treeGrower) comments(most int) []impl.Comment {
	var comments []impl.Comment
	for range g.pick.below(4) * g.pick.below(2) * most / 3 {
		if g.pick.below(2) == 0 {
			comments = append(comments, lineComment(lineTexts[g.pick.below(len(lineTexts))]))
		} else {
			comments = append(comments, blockComment(blockTexts[g.pick.below(len(blockTexts))]))
		}
	}
	return comments
}

var edgeUnits = []int{0, 8, 9, 10, 11, 12, 13, 31, ' ', '"', '\'', '/', '0', '9', 'A', 'Z', '\\', '_', '$', 'a', 'n', 'u', 'x', 'z', 127, 128, 0xa0, 0xe9, 0x2028, 0x2029, 0xd7ff, 0xd800, 0xd83d, 0xdbff, 0xdc00, 0xde00, 0xdfff, 0xe000, 0xfeff, 0xffff}

func (g treeGrower) units() []int {
	if g.pick.below(2) == 0 {
		return unitsOf(names[g.pick.below(len(names))])
	}
	units := make([]int, g.pick.below(6))
	for i := range units {
		units[i] = edgeUnits[g.pick.below(len(edgeUnits))]
	}
	return units
}

func (g treeGrower) value(depth, comments int) value {
	kind := g.pick.below(10)
	switch {
	case kind < impl.KindNumber:
		return led(word(kind), g.comments(comments)...)
	case kind == impl.KindNumber:
		return led(numeral([]string{"", "+", "-"}[g.pick.below(3)]+unsigned[g.pick.below(len(unsigned))]), g.comments(comments)...)
	case kind == impl.KindString || depth == 0:
		return led(textOf(g.units()...), g.comments(comments)...)
	}
	kind = impl.KindArray + kind%2
	items := make([]value, g.pick.below(5))
	for i := range items {
		items[i] = g.value(depth-1, comments)
		if kind == impl.KindObject {
			items[i] = keyOf(items[i], g.units()...)
		}
	}
	return led(tailed(container(kind, items), g.comments(comments)...), g.comments(comments)...)
}

func (g treeGrower) tree() impl.Tree {
	most := g.pick.below(4)
	v := g.value(5, most)
	if g.pick.below(2) == 0 {
		v = array(v, g.value(4, most), g.value(4, most))
	}
	return whole(v, g.comments(most)...)
}

func TestFormatGrownTrees(t *testing.T) {
	pick := picker(6364136223846793005)
	g := treeGrower{&pick}
	long := 0
	for range 600 {
		tree := g.tree()
		if !impl.ValidTree(tree) {
			t.Fatalf("%.300s is not valid", showTree(tree))
		}
		indent := pick.below(impl.MaxIndent + 1)
		checkBuild(t, tree, indent, plainBuild(tree, indent))
		checkReadBack(t, tree, pick.below(100), indent)
		checkAgain(t, tree)
		if len(tree.Nodes) > 20 {
			long++
		}
	}
	if long < 100 {
		t.Errorf("%d trees of many nodes", long)
	}
}

// styler writes a tree as a text in one of its many layouts.
type styler struct {
	pick *picker
	rest []impl.Node
	text strings.Builder
}

func (s *styler) oneOf(choices ...string) string {
	return choices[s.pick.below(len(choices))]
}

func (s *styler) lineEnd() string {
	return s.oneOf("\n", "\r", "\r\n", "\u2028", "\u2029")
}

func (s *styler) gap() {
	for range s.pick.below(3) {
		s.text.WriteString(s.oneOf(" ", "\t", "\v", "\f", "\u00a0", "\ufeff", s.lineEnd()))
	}
}

func (s *styler) comments(comments []impl.Comment) {
	s.gap()
	for _, c := range comments {
		if c.Block {
			s.text.WriteString("/*" + strings.ReplaceAll(string(c.Text), "\n", s.lineEnd()) + "*/")
		} else {
			s.text.WriteString("//" + string(c.Text) + s.lineEnd())
		}
		s.gap()
	}
}

// some writes some of the comments, and answers those that are left.
func (s *styler) some(comments []impl.Comment) []impl.Comment {
	n := s.pick.below(len(comments) + 1)
	s.comments(comments[:n])
	return comments[n:]
}

func (s *styler) value(comments []impl.Comment) {
	n := s.rest[0]
	s.rest = s.rest[1:]
	s.comments(comments)
	switch n.Kind {
	case impl.KindNull, impl.KindTrue, impl.KindFalse:
		s.text.WriteString([]string{"null", "true", "false"}[n.Kind])
	case impl.KindNumber:
		s.text.Write(n.Text)
	case impl.KindString:
		s.quoted(n.Units)
	default:
		s.list(n)
	}
}

func (s *styler) list(n impl.Node) {
	marks := listMarks(n)
	s.text.WriteString(marks[:1])
	for i := range n.Count {
		item := s.rest[0]
		pending := item.Lead
		if i > 0 {
			pending = s.some(pending)
			s.text.WriteString(",")
		}
		if item.Member {
			pending = s.some(pending)
			s.key(item.Key)
			pending = s.some(pending)
			s.text.WriteString(":")
		}
		s.value(pending)
		s.gap()
	}
	tail := n.Tail
	if n.Count > 0 && s.pick.below(2) == 0 {
		tail = s.some(tail)
		s.text.WriteString(",")
	}
	s.comments(tail)
	s.text.WriteString(marks[1:])
}

func (s *styler) key(units []int) {
	if quotedName.MatchString(plainUnits(units)) && s.pick.below(2) == 0 {
		s.text.WriteString(plainKey(units))
		return
	}
	s.quoted(units)
}

func (s *styler) quoted(units []int) {
	quote := s.oneOf("'", `"`)
	s.text.WriteString(quote)
	for i := 0; i < len(units); i++ {
		if s.pick.below(8) == 0 {
			s.text.WriteString(`\` + s.oneOf("\n", "\r\n", "\u2028", "\u2029"))
		}
		if pair := units[i:min(i+2, len(units))]; len(pair) == 2 && pair[0]>>10 == 0x36 && pair[1]>>10 == 0x37 && s.pick.below(2) == 0 {
			form := plainUnits(pair)
			s.text.WriteString(s.oneOf("", `\`) + form[1:len(form)-1])
			i++
			continue
		}
		s.text.WriteString(s.character(units[i], quote))
	}
	s.text.WriteString(quote)
}

// character is one of the forms that stand for a unit.
func (s *styler) character(u int, quote string) string {
	hex := strconv.FormatInt(int64(u)+0x10000, 16)[1:]
	forms := []string{`\u` + hex, `\u` + strings.ToUpper(hex)}
	if u < 256 {
		forms = append(forms, `\x`+hex[2:], `\x`+strings.ToUpper(hex[2:]))
	}
	if i := slices.Index([]int{8, 12, 10, 13, 9, 11}, u); i >= 0 {
		forms = append(forms, `\`+"bfnrtv"[i:i+1])
	}
	if u>>11 == 0x1b {
		return s.oneOf(forms...)
	}
	form := string(rune(u))
	if form != quote && !strings.Contains("\\\n\r", form) {
		forms = append(forms, form, form)
	}
	if !strings.Contains("0123456789bfnrtvxu\n\r\u2028\u2029", form) {
		forms = append(forms, `\`+form)
	}
	return s.oneOf(forms...)
}

func styled(pick *picker, tree impl.Tree) string {
	s := styler{pick: pick, rest: tree.Nodes}
	s.value(tree.Nodes[0].Lead)
	s.comments(tree.Tail)
	return s.text.String()
}

func TestFormatStyles(t *testing.T) {
	pick := picker(2862933555777941757)
	g := treeGrower{&pick}
	read := 0
	for range 1000 {
		tree := g.tree()
		for range 3 {
			source := styled(&pick, tree)
			if len(source) > impl.MaxInput {
				continue
			}
			checkParse(t, source, tree)
			checkStyles(t, source, tree)
			read++
		}
	}
	if read < 2500 {
		t.Errorf("%d texts", read)
	}
}

func TestFormatStylesByHand(t *testing.T) {
	alike := [][]string{
		{"[1,2]", "[1,2,]", " [ 1 , 2 , ] ", "[\n1,\n2\n]", "[\r\n\t1,\u20282,\u2029]", "\ufeff[1\u00a0,\v2\f]\n\n", "[1, 2]\n", "[\n  1,\n  2,\n]\n"},
		{"{a:1,b:[]}", "{'a':1,\"b\":[],}", "{ a : 1 ,\nb : [ ] }", `{"\u0061":1,'\x62':[]}`, "{'\\a':1,\"\\\nb\":[]}", "{\"a\\\r\n\":1,b\r\n:\t[\n],\n}"},
		{`"a'\"\n"`, `'a\'"\n'`, `'\a\x27\u0022\u000a'`, "'a\\'\\\"\\\r\\n'", `"a\'\"\x0A"`, `"\u0061\u0027\x22\n"`},
		{"'é😀'", `"\u00e9\ud83d\ude00"`, `'\xe9\uD83D\uDE00'`, `"\xE9😀"`, `'\é\😀'`},
		{"{'':null}", `{"":null}`, `{"\` + "\n" + `":null,}`},
		{"/*a\nb*/[//c\n1/*d*/,]//e", "/*a\r\nb*/[//c\r1,/*d*/]//e\n", "/*a\u2028b*/\n[ //c\u2029 1 /*d*/ ] //e\r\n", "\n/*a\rb*/ [\n//c\r\n1\n,\n/*d*/\n]\n//e\u2028"},
		{"[1/*a*/,/*b*/2]", "[1,/*a*//*b*/2]", "[1/*a*//*b*/,2,]", "[1 /*a*/\n/*b*/ , 2]"},
		{"{/*a*/k:/*b*/1}", "{k/*a*/:/*b*/1}", "{k:/*a*//*b*/1,}", "{/*a*//*b*/'k':1}", "{/*a*/\"k\"/*b*/:1}"},
		{"[//\n]", "[//\r]", "[\n\n//\u2028\n]", "[ //\r\n ]"},
	}
	for _, group := range alike {
		tree, code, _ := impl.ParseTree([]byte(group[0]))
		if code != impl.CodeOK {
			t.Fatalf("%q: code %d", group[0], code)
		}
		for _, source := range group {
			checkParse(t, source, tree)
			checkStyles(t, source, tree)
		}
	}
}

// TestFormatKeepsValues has pairs of texts that mean the same number or look
// alike, but are not the same value as they are written.
func TestFormatKeepsValues(t *testing.T) {
	forms := []string{"1", "+1", "1.", "1.0", "1e0", "1E0", "1e+0", "0x1", "0X1", "0x01", "-0", "0", "+0", ".0", "0.0", "Infinity", "+Infinity", "-Infinity", "NaN", "+NaN", "-NaN", "0xaB", "0xAb", "'1'", "null", "'null'", "true", "false", "[]", "{}", "[[]]", "[{}]", "''", "' '", "[1]", "[1,1]", "{a:1}", "{a:1,a:1}", "{a:1,b:1}", "{b:1,a:1}"}
	seen := map[string]string{}
	for _, form := range forms {
		text, code, _ := impl.Format([]byte(form), 80, 2)
		if other, same := seen[string(text)]; same || code != impl.CodeOK {
			t.Errorf("Format(%q) is that of %q: %q, code %d", form, other, text, code)
		}
		seen[string(text)] = form
		if form[0] != '\'' && form[0] != '[' && form[0] != '{' && string(text) != form+"\n" {
			t.Errorf("Format(%q): %q", form, text)
		}
	}
	pick := picker(3202034522624059733)
	for range 500 {
		g := grower{pick: &pick}
		g.gap()
		g.value(4)
		g.gap()
		source := g.text.String()
		tree, code, _ := impl.ParseTree([]byte(source))
		text, formatCode, _ := impl.Format([]byte(source), pick.below(90), pick.below(impl.MaxIndent+1))
		if code != formatCode {
			t.Fatalf("Format(%q): code %d, want %d", source, formatCode, code)
		}
		if code != impl.CodeOK || len(text) > impl.MaxInput {
			continue
		}
		again, _, _ := impl.ParseTree(text)
		if !sameTree(again, tree) || !sameTree(impl.StripComments(again), bare(tree)) {
			t.Fatalf("Format(%q): %q has the tree %s", source, text, showTree(again))
		}
		checkAgain(t, tree)
	}
}
