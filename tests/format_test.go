package tests

import (
	"math"
	"slices"
	"strings"
	"testing"
	"unicode/utf8"

	"loop.example/s02863/impl"
)

// plainFormatter writes a tree by lines, without a document. A list is on one
// line where it has no comments and its line, with the comma behind it, is not
// too wide.
type plainFormatter struct {
	nodes         []impl.Node
	width, indent int
	text          strings.Builder
}

func plainFormat(tree impl.Tree, width, indent int) string {
	f := plainFormatter{nodes: tree.Nodes, width: width, indent: indent}
	f.item("\n", "")
	f.text.WriteString("\n")
	for _, c := range tree.Tail {
		f.text.WriteString(plainMarked(c) + "\n")
	}
	return f.text.String()
}

func plainMarked(c impl.Comment) string {
	if c.Block {
		return "/*" + string(c.Text) + "*/"
	}
	return "//" + string(c.Text)
}

// item writes the next node with its comments and its key, and the comma that
// follows it on its line, if any. start is a new line at its indent.
func (f *plainFormatter) item(start, comma string) {
	n := f.nodes[0]
	for _, c := range n.Lead {
		f.text.WriteString(plainMarked(c) + start)
	}
	key := ""
	if n.Member {
		key = plainKey(n.Key) + ": "
	}
	f.text.WriteString(key)
	column := len(start) - 1 + utf8.RuneCountInString(key)
	if flat, rest, can := plainFlat(f.nodes); can && (n.Count == 0 || column+utf8.RuneCountInString(flat+comma) <= f.width) {
		f.nodes = rest
		f.text.WriteString(flat + comma)
		return
	}
	f.nodes = f.nodes[1:]
	marks := listMarks(n)
	f.text.WriteString(marks[:1])
	inner := start + strings.Repeat(" ", f.indent)
	for range n.Count {
		f.text.WriteString(inner)
		f.item(inner, ",")
	}
	for _, c := range n.Tail {
		f.text.WriteString(inner + plainMarked(c))
	}
	f.text.WriteString(start + marks[1:] + comma)
}

func listMarks(n impl.Node) string {
	if n.Kind == impl.KindArray {
		return "[]"
	}
	return "{}"
}

// plainFlat answers the first value on one line, without its Lead and its key,
// the nodes behind it, and whether there is such a line.
func plainFlat(nodes []impl.Node) (string, []impl.Node, bool) {
	n := nodes[0]
	nodes = nodes[1:]
	switch n.Kind {
	case impl.KindNumber:
		return string(n.Text), nodes, true
	case impl.KindString:
		return plainUnits(n.Units), nodes, true
	case impl.KindNull, impl.KindTrue, impl.KindFalse:
		return []string{"null", "true", "false"}[n.Kind], nodes, true
	}
	can := len(n.Tail) == 0
	var items []string
	for range n.Count {
		item, rest, canItem := plainFlat(nodes)
		can = can && canItem && len(nodes[0].Lead) == 0
		if nodes[0].Member {
			item = plainKey(nodes[0].Key) + ": " + item
		}
		items = append(items, item)
		nodes = rest
	}
	inner := strings.Join(items, ", ")
	if n.Kind == impl.KindObject && n.Count > 0 {
		inner = " " + inner + " "
	}
	marks := listMarks(n)
	return marks[:1] + inner + marks[1:], nodes, can
}

// checkFormatTree holds FormatTree against the plain formatter, and against
// Layout of the tree's document.
func checkFormatTree(t *testing.T, tree impl.Tree, width, indent int) []byte {
	t.Helper()
	text, code := impl.FormatTree(tree, width, indent)
	want := plainFormat(tree, width, indent)
	if code != impl.CodeOK || string(text) != want {
		t.Fatalf("FormatTree(%.300s, %d, %d): %.300q, code %d; want %.300q", showTree(tree), width, indent, text, code, want)
	}
	d, _ := impl.BuildDoc(tree, indent)
	if laid, _, code := impl.Layout(d, width); code != impl.CodeOK || string(laid) != want {
		t.Fatalf("Layout of BuildDoc(%.300s, %d) with %d: %.300q, code %d; want %.300q", showTree(tree), indent, width, laid, code, want)
	}
	return text
}

func checkNoFormatTree(t *testing.T, name string, tree impl.Tree, width, indent, want int) {
	t.Helper()
	if text, code := impl.FormatTree(tree, width, indent); code != want || len(text) > 0 {
		t.Errorf("%s: FormatTree(%.200s, %d, %d): %.80q, code %d; want code %d", name, showTree(tree), width, indent, text, code, want)
	}
}

func checkFormat(t *testing.T, source string, width, indent int, want string) {
	t.Helper()
	if text, code, at := impl.Format([]byte(source), width, indent); code != impl.CodeOK || at != 0 || string(text) != want {
		t.Errorf("Format(%.200q, %d, %d): %.200q, code %d at %d; want %.200q", source, width, indent, text, code, at, want)
	}
}

func checkNoFormat(t *testing.T, source string, width, indent, wantCode, wantAt int) {
	t.Helper()
	if text, code, at := impl.Format([]byte(source), width, indent); code != wantCode || at != wantAt || len(text) > 0 {
		t.Errorf("Format(%.80q, %d, %d): %.80q, code %d at %d; want code %d at %d", source, width, indent, text, code, at, wantCode, wantAt)
	}
}

func TestFormatExample(t *testing.T) {
	checkFormat(t, "{a:[1,2,],/*c*/'b c':null}", 80, 2, "{\n  a: [1, 2],\n  /*c*/\n  \"b c\": null,\n}\n")
	checkFormat(t, "{a:[1,2,],'b c':null}", 80, 2, "{ a: [1, 2], \"b c\": null }\n")
	// The one line has 26 code points.
	checkFormat(t, "{a:[1,2,],'b c':null}", 26, 2, "{ a: [1, 2], \"b c\": null }\n")
	checkFormat(t, "{a:[1,2,],'b c':null}", 25, 2, "{\n  a: [1, 2],\n  \"b c\": null,\n}\n")
	checkFormat(t, "{a:[1,2,],'b c':null}", 12, 2, "{\n  a: [1, 2],\n  \"b c\": null,\n}\n")
	checkFormat(t, "{a:[1,2,],'b c':null}", 11, 2, "{\n  a: [\n    1,\n    2,\n  ],\n  \"b c\": null,\n}\n")
}

func TestFormatByHand(t *testing.T) {
	cases := []struct {
		source        string
		width, indent int
		want          string
	}{
		{"null", 0, 0, "null\n"}, {" true\r\n", 4, 2, "true\n"}, {"false", 80, 16, "false\n"}, {"-Infinity", 0, 2, "-Infinity\n"}, {"+0XaB", 80, 2, "+0XaB\n"}, {"'\\x41'", 0, 2, "\"A\"\n"},
		{"[]", 0, 2, "[]\n"}, {"{ }", 0, 2, "{}\n"}, {"[[]]", 0, 2, "[\n  [],\n]\n"}, {"[[]]", 4, 2, "[[]]\n"}, {"[[]]", 3, 2, "[\n  [],\n]\n"}, {"{a:{}}", 9, 2, "{ a: {} }\n"}, {"{a:{}}", 8, 2, "{\n  a: {},\n}\n"},
		// The comma behind a list stands on its line.
		{"[[1,2],3]", 8, 1, "[\n [1, 2],\n 3,\n]\n"}, {"[[1,2],3]", 7, 1, "[\n [\n  1,\n  2,\n ],\n 3,\n]\n"}, {"[3,[1,2]]", 8, 1, "[\n 3,\n [1, 2],\n]\n"}, {"[3,[1,2]]", 7, 1, "[\n 3,\n [\n  1,\n  2,\n ],\n]\n"},
		// Widths are code points.
		{"['é','😀']", 10, 2, "[\"é\", \"😀\"]\n"}, {"['é','😀']", 9, 2, "[\n  \"é\",\n  \"😀\",\n]\n"}, {"{'é':[1]}", 12, 2, "{ \"é\": [1] }\n"}, {"{'é':[1]}", 11, 2, "{\n  \"é\": [1],\n}\n"},
		// Comments break what is around them, not what is beside them.
		{"[[1,2],/*c*/[3,4]]", 80, 2, "[\n  [1, 2],\n  /*c*/\n  [3, 4],\n]\n"}, {"[[1,2],[/*c*/3,4]]", 80, 2, "[\n  [1, 2],\n  [\n    /*c*/\n    3,\n    4,\n  ],\n]\n"},
		{"[[1,2]]//c", 80, 2, "[[1, 2]]\n//c\n"}, {"//c\n[[1,2]]", 80, 2, "//c\n[[1, 2]]\n"}, {"{a:/*c*/[1]}", 80, 2, "{\n  /*c*/\n  a: [1],\n}\n"}, {"{a:[1/*c*/]}", 80, 2, "{\n  a: [\n    1,\n    /*c*/\n  ],\n}\n"},
		{"{a:[/*c*/]}", 80, 4, "{\n    a: [\n        /*c*/\n    ],\n}\n"}, {"[{//c\n}]", 80, 0, "[\n{\n//c\n},\n]\n"}, {"[//\n]", 80, 2, "[\n  //\n]\n"},
		// The lines of a block stay as they are.
		{"[[/*a\n  b\n*/1]]", 80, 2, "[\n  [\n    /*a\n  b\n*/\n    1,\n  ],\n]\n"}, {"{a:1,/*\r\n\r*/}", 80, 2, "{\n  a: 1,\n  /*\n\n*/\n}\n"}, {"/*\n*/1/*\n\n*/", 80, 2, "/*\n*/\n1\n/*\n\n*/\n"},
		{"[/*a\n*//*b*/1//c\n]", 80, 2, "[\n  /*a\n*/\n  /*b*/\n  1,\n  //c\n]\n"},
		// Keys.
		{"{'a':1,\"b\":2,'c d':3,'':4,null:5,'Infinity':6,'1':7}", 80, 2, "{ a: 1, b: 2, \"c d\": 3, \"\": 4, null: 5, Infinity: 6, \"1\": 7 }\n"}, {"{'\\ud800':1}", 80, 2, "{ \"\\ud800\": 1 }\n"}, {"{'\\u0061':1}", 80, 2, "{ a: 1 }\n"},
		{"{long:'aaaaaaaaaa'}", 20, 2, "{\n  long: \"aaaaaaaaaa\",\n}\n"}, {"{a:{b:{c:1}}}", 20, 2, "{\n  a: {\n    b: { c: 1 },\n  },\n}\n"}, {"{a:{b:{c:1}}}", 21, 2, "{\n  a: { b: { c: 1 } },\n}\n"}, {"{a:{b:{c:1}}}", 22, 2, "{ a: { b: { c: 1 } } }\n"},
	}
	for _, c := range cases {
		checkFormat(t, c.source, c.width, c.indent, c.want)
		tree, _, _ := impl.ParseTree([]byte(c.source))
		if text := checkFormatTree(t, tree, c.width, c.indent); string(text) != c.want {
			t.Errorf("%q at %d, %d: FormatTree: %q", c.source, c.width, c.indent, text)
		}
		checkFormat(t, c.want, c.width, c.indent, c.want)
	}
}

var badWidths = []int{-1, -2, impl.MaxWidth + 1, impl.MaxWidth + 2, 1 << 32, math.MaxInt, math.MinInt}
var badIndents = []int{-1, -2, impl.MaxIndent + 1, impl.MaxIndent + 2, 1 << 32, math.MaxInt, math.MinInt}

func TestFormatBounds(t *testing.T) {
	tree := whole(array(numeral("1"), object(member("a", null))))
	const broken, flat = "[\n1,\n{\na: null,\n},\n]\n", "[1, { a: null }]\n"
	for _, c := range []struct {
		width, indent int
		want          string
	}{
		{0, 0, broken}, {impl.MaxWidth, 0, flat}, {impl.MaxWidth, impl.MaxIndent, flat}, {16, 2, flat}, {15, 0, "[\n1,\n{ a: null },\n]\n"},
		{0, impl.MaxIndent, "[\n                1,\n                {\n                                a: null,\n                },\n]\n"},
	} {
		if text := checkFormatTree(t, tree, c.width, c.indent); string(text) != c.want {
			t.Errorf("at %d, %d: %q", c.width, c.indent, text)
		}
		checkFormat(t, "[1,{a:null}]", c.width, c.indent, c.want)
	}
	sources := []string{"1", "[1,{a:null}]", "", "[", "]", "\xff", "@", "[,]", strings.Repeat(" ", impl.MaxInput+1), strings.Repeat("[", 201) + strings.Repeat("]", 201)}
	check := func(width, indent int) {
		t.Helper()
		checkNoFormatTree(t, "bounds", tree, width, indent, impl.CodeBad)
		checkNoFormatTree(t, "bounds and tree", impl.Tree{}, width, indent, impl.CodeBad)
		for _, source := range sources {
			checkNoFormat(t, source, width, indent, impl.CodeBad, 0)
		}
	}
	for _, width := range badWidths {
		for _, indent := range []int{0, 2, impl.MaxIndent} {
			check(width, indent)
		}
	}
	for _, indent := range badIndents {
		for _, width := range []int{0, 80, impl.MaxWidth} {
			check(width, indent)
		}
		for _, width := range badWidths {
			check(width, indent)
		}
	}
	for _, tree := range badTrees() {
		checkNoFormatTree(t, "not valid", tree, 80, 2, impl.CodeBad)
		checkNoFormatTree(t, "not valid", tree, 0, 0, impl.CodeBad)
		checkNoFormatTree(t, "not valid", tree, impl.MaxWidth, impl.MaxIndent, impl.CodeBad)
	}
}

// TestFormatOfFaults has the code and the offset of ParseTree.
func TestFormatOfFaults(t *testing.T) {
	deep, back := strings.Repeat("[", impl.MaxDepth+1), strings.Repeat("]", impl.MaxDepth+1)
	long := strings.Repeat(" ", impl.MaxInput)
	for _, c := range badTexts {
		checkNoFormat(t, c.text, 80, 2, impl.CodeText, c.at)
		checkNoFormat(t, "[1, "+c.text, 80, 2, impl.CodeText, 4+c.at)
	}
	for _, fault := range lexFaults {
		if utf8.ValidString(fault) && fault != "//" {
			checkNoFormat(t, "[1, "+fault, 0, 0, impl.CodeSyntax, 4)
		}
	}
	for _, c := range []struct {
		source   string
		code, at int
	}{
		{"", impl.CodeSyntax, 0}, {" ", impl.CodeSyntax, 1}, {"//c", impl.CodeSyntax, 3}, {"[", impl.CodeSyntax, 1}, {"[1,", impl.CodeSyntax, 3}, {"{a", impl.CodeSyntax, 2}, {"{a:1", impl.CodeSyntax, 4},
		{"[1 2]", impl.CodeSyntax, 3}, {"[,]", impl.CodeSyntax, 1}, {"{,}", impl.CodeSyntax, 1}, {"{1:2}", impl.CodeSyntax, 1}, {"{a}", impl.CodeSyntax, 2}, {"foo", impl.CodeSyntax, 0}, {"1 /*c*/ 2", impl.CodeSyntax, 8}, {"[1}", impl.CodeSyntax, 2}, {"[1,,]", impl.CodeSyntax, 3},
		{"[1] /*", impl.CodeSyntax, 4}, {"\"a\nb\"", impl.CodeSyntax, 0}, {"[01]", impl.CodeSyntax, 1}, {"[,\xff", impl.CodeText, 2},
		{long + "1", impl.CodeLimit, impl.MaxInput}, {"\xff" + long, impl.CodeLimit, impl.MaxInput}, {long, impl.CodeSyntax, impl.MaxInput},
		{deep + back, impl.CodeLimit, impl.MaxDepth}, {"//c\n" + deep + back, impl.CodeLimit, impl.MaxDepth + 4}, {deep + back + "]", impl.CodeSyntax, 2*impl.MaxDepth + 2}, {deep, impl.CodeSyntax, impl.MaxDepth + 1},
	} {
		for _, width := range []int{0, 80, impl.MaxWidth} {
			checkNoFormat(t, c.source, width, 2, c.code, c.at)
		}
	}
	eachText([]string{"[", "]", "{", "}", ",", ":", "a", "1 ", "'s'", "@", "\xff"}, 4, func(source string) {
		tree, code, at := impl.ParseTree([]byte(source))
		if code != impl.CodeOK {
			checkNoFormat(t, source, 80, 2, code, at)
		} else {
			checkFormat(t, source, 80, 2, plainFormat(tree, 80, 2))
		}
	})
}

func TestFormatLongTexts(t *testing.T) {
	const most = impl.MaxInput
	digits := strings.Repeat("7", most)
	checkFormat(t, digits, 80, 2, digits+"\n")
	checkNoFormat(t, digits+"7", 80, 2, impl.CodeLimit, most)
	checkFormat(t, digits[1:], 80, 2, digits[1:]+"\n")
	checkFormat(t, digits[1:]+"\n", 80, 2, digits[1:]+"\n")
	checkFormat(t, strings.Repeat(" ", most-1)+"1", 80, 2, "1\n")
	checkFormat(t, "1"+strings.Repeat("\n", most-1), 80, 2, "1\n")
	checkNoFormat(t, "1"+strings.Repeat("\n", most), 80, 2, impl.CodeLimit, most)
	checkFormat(t, "[1]//"+digits[5:], 80, 2, "[1]\n//"+digits[5:]+"\n")
	checkNoFormat(t, "[1]//"+digits[4:], 80, 2, impl.CodeLimit, most)

	// The texts whose documents have the most elements and bytes for their
	// length: none of them comes to a limit.
	list := func(opens, item, closes string) string {
		return opens + strings.Repeat(item, (most-len(opens+closes))/len(item)) + closes
	}
	for _, source := range []string{
		list("/*", "\n", "*/1"), list("[/*", "\r", "*/]"), list("[", "1,", "]"), list("[", "[],", "]"), list("[", "[1],", "]"), list("[", "[[1]],", "]"), list("{", "a:1,", "}"), list("{", "a:{a:1},", "}"),
		list("[", "//\n", "]"), list("[1", "//\n", "]"), list("", "//\n", "1"), list("1", "//\n", ""), list("[", "[//\n],", "]"), list("[", "/**/", "]"), list("[", "[/**/],", "]"), list("[", "//\n1,", "]"),
		list("'", "\x01", "'"), list(`["`, "\x7f", `"]`), list("[", "'\x01',", "]"), list("{'", "\x01", "':1}"), list("{", "'':1,", "}"), list("'", "\u2028", "'"), list("'", `"`, "'"),
		list(strings.Repeat("[", 200), "1,", strings.Repeat("]", 200)), list(strings.Repeat("{a:[", 99), "[],", strings.Repeat("]}", 99)), list(strings.Repeat("[", 200), "//\n", strings.Repeat("]", 200)),
	} {
		tree, code, at := impl.ParseTree([]byte(source))
		if code != impl.CodeOK {
			t.Fatalf("%.20q: code %d at %d", source, code, at)
		}
		for _, width := range []int{0, 80, impl.MaxWidth} {
			for _, indent := range []int{0, impl.MaxIndent} {
				checkFormat(t, source, width, indent, plainFormat(tree, width, indent))
			}
		}
	}
}

func TestFormatDeepTexts(t *testing.T) {
	pairs := []struct{ opens, closes string }{{"[", "]"}, {"{a:", "}"}, {"[1,", "]"}, {"[/**/", "]"}, {"{a:1,'b c':", ",}"}}
	for _, pair := range pairs {
		deep := func(n int, inner string) string {
			return strings.Repeat(pair.opens, n) + inner + strings.Repeat(pair.closes, n)
		}
		for _, depth := range []int{1, impl.MaxDepth} {
			source := deep(depth, "1")
			tree, _, _ := impl.ParseTree([]byte(source))
			for _, width := range []int{0, 100, 1000, impl.MaxWidth} {
				for _, indent := range []int{0, 1, impl.MaxIndent} {
					checkFormat(t, source, width, indent, plainFormat(tree, width, indent))
				}
			}
		}
		checkNoFormat(t, deep(impl.MaxDepth+1, "1"), 80, 2, impl.CodeLimit, len(pair.opens)*impl.MaxDepth+strings.IndexAny(pair.opens, "[{"))
	}
	arrays := strings.Repeat("[", impl.MaxDepth) + strings.Repeat("]", impl.MaxDepth)
	checkFormat(t, arrays, 2*impl.MaxDepth, 2, arrays+"\n")
	checkNoFormat(t, "["+arrays+"]", 80, 2, impl.CodeLimit, impl.MaxDepth)
}

// TestFormatEveryWidth goes through the widths at which lists break.
func TestFormatEveryWidth(t *testing.T) {
	sources := []string{
		"{a:[1,2,{b:'é😀',c:[[],{}]}],'d e':[[1,22,333],[4444]],f:{g:{h:{i:null}}}}", "[[[[[1,2],3],4],5],6]", "[1,[2,[3,[4,[5]]]]]",
		"[[1,2,3],/*c*/[4,5,6],{a:7,b:[8,9]/*d\ne*/}]//f", "{a:{b:1},c:{d:2},'':{e:[]}}", "[{},{},[{}],[[],[]]]",
	}
	for _, source := range sources {
		tree, _, _ := impl.ParseTree([]byte(source))
		seen := map[string]bool{}
		for width := range 100 {
			for _, indent := range []int{0, 1, 2, 3, 8, impl.MaxIndent} {
				text := checkFormatTree(t, tree, width, indent)
				checkFormat(t, source, width, indent, string(text))
				seen[string(text)] = true
			}
		}
		if len(seen) < 6 {
			t.Errorf("%q: %d layouts", source, len(seen))
		}
	}
}

// A list that holds a comment anywhere is broken at every width.
func TestFormatCommentsBreak(t *testing.T) {
	for _, c := range []impl.Comment{lineComment(""), lineComment("x"), blockComment(""), blockComment("x\n")} {
		for depth := 1; depth <= 5; depth++ {
			for _, inner := range []value{led(null, c), led(array(), c), tailed(object(), c), tailed(array(null), c)} {
				tree := whole(nested(depth, yes, inner, no))
				text := string(checkFormatTree(t, tree, impl.MaxWidth, 1))
				if lines := strings.Split(text, "\n"); !slices.Contains(lines, strings.Repeat(" ", depth)+"true,") || len(lines) < 2*depth+5 {
					t.Errorf("%q: not broken", text)
				}
			}
		}
	}
}
