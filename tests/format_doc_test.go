package tests

import (
	"math"
	"regexp"
	"slices"
	"strconv"
	"strings"
	"testing"
	"unicode/utf16"

	"loop.example/s02863/impl"
)

const docLetters = "0tlshrcngf"

// spelled reads a document that is written with a letter an element: behind t
// its Text, with ~ for a blank, and behind n its N.
func spelled(elements string) doc {
	var d doc
	for _, e := range strings.Fields(elements) {
		p := impl.Piece{Kind: strings.IndexByte(docLetters, e[0])}
		switch p.Kind {
		case impl.DocText:
			p.Text = []byte(strings.ReplaceAll(e[1:], "~", " "))
		case impl.DocNest:
			p.N, _ = strconv.Atoi(e[1:])
		}
		d = append(d, p)
	}
	return d
}

// spell is the way back, for messages.
func spell(d doc) string {
	var elements []string
	for _, p := range d[:min(len(d), 60)] {
		e := docLetters[p.Kind:p.Kind+1] + strings.ReplaceAll(string(p.Text), " ", "~")
		if p.Kind == impl.DocNest {
			e += strconv.Itoa(p.N)
		}
		elements = append(elements, e)
	}
	return strings.Join(elements, " ")
}

func checkBuild(t *testing.T, tree impl.Tree, indent int, want doc) {
	t.Helper()
	d, code := impl.BuildDoc(tree, indent)
	if code != impl.CodeOK || !sameDoc(d, want) {
		t.Errorf("BuildDoc(%.200s, %d): %s, code %d; want %s", showTree(tree), indent, spell(d), code, spell(want))
	}
	if !impl.ValidDoc(d) {
		t.Errorf("BuildDoc(%.200s, %d): %s is not valid", showTree(tree), indent, spell(d))
	}
}

func checkSpelled(t *testing.T, tree impl.Tree, elements string) {
	t.Helper()
	checkBuild(t, tree, 2, spelled(elements))
}

func checkNoBuild(t *testing.T, name string, tree impl.Tree, indent int, want int) {
	t.Helper()
	if d, code := impl.BuildDoc(tree, indent); code != want || len(d) > 0 {
		t.Errorf("%s: BuildDoc(%.200s, %d): %s, code %d; want code %d", name, showTree(tree), indent, spell(d), code, want)
	}
}

func TestBuildSpelled(t *testing.T) {
	if d := spelled("t[ n16 ta:~ h t"); spell(d) != "t[ n16 ta:~ h t" || len(d) != 5 || string(d[2].Text) != "a: " || d[1].N != 16 {
		t.Errorf("%s", spell(d))
	}
}

func TestBuildWords(t *testing.T) {
	checkSpelled(t, whole(null), "tnull h c")
	checkSpelled(t, whole(yes), "ttrue h c")
	checkSpelled(t, whole(no), "tfalse h c")
	checkSpelled(t, whole(array()), "t[] h c")
	checkSpelled(t, whole(object()), "t{} h c")
	checkSpelled(t, whole(array(null, yes, no)), "t[ s tnull c t, c l c ttrue c t, c l c tfalse c t, 0 f c n2 c s c t] c g h c")
	checkSpelled(t, whole(object(member("a", array()), member("b", object()))), "t{ l ta:~ c t[] c t, c l c tb:~ c t{} c t, 0 f c n2 c l c t} c g h c")
}

func TestBuildNumbers(t *testing.T) {
	for _, form := range unsigned {
		for _, sign := range []string{"", "+", "-"} {
			checkSpelled(t, whole(numeral(sign+form)), "t"+sign+form+" h c")
			checkSpelled(t, whole(array(numeral(sign+form))), "t[ s t"+sign+form+" c t, 0 f c n2 c s c t] c g h c")
		}
	}
}

// oddUnits are units with what QuoteUnits makes of them; none is a name.
var oddUnits = []struct {
	units []int
	form  string
}{
	{nil, `""`}, {unitsOf("a b"), `"a b"`}, {unitsOf("1"), `"1"`}, {unitsOf("1a"), `"1a"`}, {unitsOf("a-b"), `"a-b"`}, {unitsOf("a.b"), `"a.b"`},
	{unitsOf(" a"), `" a"`}, {unitsOf("a "), `"a "`}, {unitsOf("+1"), `"+1"`}, {unitsOf("-Infinity"), `"-Infinity"`},
	{unitsOf(`'`), `"'"`}, {unitsOf(`"`), `"\""`}, {unitsOf(`a'b"c`), `"a'b\"c"`}, {unitsOf(`\`), `"\\"`}, {unitsOf(`\n`), `"\\n"`}, {unitsOf("/"), `"/"`},
	{[]int{8, 12, 10, 13, 9}, `"\b\f\n\r\t"`}, {[]int{0, 11, 31, 127}, `"\u0000\u000b\u001f\u007f"`}, {[]int{0x2028, 0x2029}, `"\u2028\u2029"`},
	{[]int{0xd800}, `"\ud800"`}, {[]int{'a', 0xdfff}, `"a\udfff"`}, {[]int{0xde00, 0xd83d}, `"\ude00\ud83d"`}, {[]int{0xd83d, 0xde00}, `"😀"`},
	{[]int{0xe9}, `"é"`}, {[]int{'a', 0xe9}, `"aé"`}, {[]int{0xa0, 0xfeff, 0xffff}, "\"\u00a0\ufeff\uffff\""}, {[]int{0x41 + 0x100}, `"Ł"`},
}

var names = []string{"a", "Z", "_", "$", "a1", "_1", "$1", "aZ9_$", "null", "true", "false", "Infinity", "NaN", "e1", "x", "constructor", "__proto__"}

func TestBuildStrings(t *testing.T) {
	for _, name := range names {
		checkSpelled(t, whole(textOf(unitsOf(name)...)), `t"`+name+`" h c`)
	}
	for _, odd := range oddUnits {
		want := catDoc(textDoc(odd.form), hard)
		checkBuild(t, whole(textOf(odd.units...)), 2, want)
		list := groupDoc(catDoc(textDoc("["), nestDoc(2, catDoc(soft, textDoc(odd.form), altDoc(textDoc(","), nothing))), soft, textDoc("]")))
		checkBuild(t, whole(array(textOf(odd.units...))), 2, catDoc(list, hard))
	}
}

func TestBuildKeys(t *testing.T) {
	for _, name := range names {
		checkSpelled(t, whole(object(member(name, numeral("1")))), "t{ l t"+name+":~ c t1 c t, 0 f c n2 c l c t} c g h c")
	}
	for _, odd := range oddUnits {
		want := spelled("t{ l t c t1 c t, 0 f c n2 c l c t} c g h c")
		want[2].Text = []byte(odd.form + ": ")
		checkBuild(t, whole(object(keyOf(numeral("1"), odd.units...))), 2, want)
	}
	// One key twice, and keys inside each other.
	checkSpelled(t, whole(object(member("a", null), member("a", null))), "t{ l ta:~ c tnull c t, c l c ta:~ c tnull c t, 0 f c n2 c l c t} c g h c")
	checkSpelled(t, whole(object(member("a", object(member("b c", null))))),
		`t{ l ta:~ c t{ l t"b~c":~ c tnull c t, 0 f c n2 c l c t} c g c t, 0 f c n2 c l c t} c g h c`)
}

func TestBuildLists(t *testing.T) {
	one, two, three := numeral("1"), numeral("2"), numeral("3")
	x, y := lineComment("x"), blockComment("y")
	checkSpelled(t, whole(array(one)), "t[ s t1 c t, 0 f c n2 c s c t] c g h c")
	checkSpelled(t, whole(array(one, two)), "t[ s t1 c t, c l c t2 c t, 0 f c n2 c s c t] c g h c")
	checkSpelled(t, whole(array(one, two, three)), "t[ s t1 c t, c l c t2 c t, c l c t3 c t, 0 f c n2 c s c t] c g h c")
	checkSpelled(t, whole(object(member("a", one))), "t{ l ta:~ c t1 c t, 0 f c n2 c l c t} c g h c")
	checkSpelled(t, whole(object(member("a", one), member("b", two))), "t{ l ta:~ c t1 c t, c l c tb:~ c t2 c t, 0 f c n2 c l c t} c g h c")
	checkSpelled(t, whole(array(array(one))), "t[ s t[ s t1 c t, 0 f c n2 c s c t] c g c t, 0 f c n2 c s c t] c g h c")
	checkSpelled(t, whole(array(array(), array(one), two)), "t[ s t[] c t, c l c t[ s t1 c t, 0 f c n2 c s c t] c g c t, c l c t2 c t, 0 f c n2 c s c t] c g h c")
	checkSpelled(t, whole(array(object(member("a", one)))), "t[ s t{ l ta:~ c t1 c t, 0 f c n2 c l c t} c g c t, 0 f c n2 c s c t] c g h c")

	// Empty, with a Tail: no group, and a hard line at the end.
	checkSpelled(t, whole(tailed(array(), x)), "t[ h t//x c n2 c h c t] c h c")
	checkSpelled(t, whole(tailed(object(), x)), "t{ h t//x c n2 c h c t} c h c")
	checkSpelled(t, whole(tailed(array(), x, y)), "t[ h t//x c h c t/*y*/ c n2 c h c t] c h c")
	checkSpelled(t, whole(tailed(object(), y, y, x)), "t{ h t/*y*/ c h c t/*y*/ c h c t//x c n2 c h c t} c h c")
	checkSpelled(t, whole(array(tailed(array(), x))), "t[ s t[ h t//x c n2 c h c t] c c t, 0 f c n2 c s c t] c g h c")
	checkSpelled(t, whole(object(member("a", tailed(object(), x)))), "t{ l ta:~ c t{ h t//x c n2 c h c t} c c t, 0 f c n2 c l c t} c g h c")

	// With items and a Tail.
	checkSpelled(t, whole(tailed(array(one), x)), "t[ s t1 c t, 0 f c h c t//x c n2 c s c t] c g h c")
	checkSpelled(t, whole(tailed(array(one, two), x, y)), "t[ s t1 c t, c l c t2 c t, 0 f c h c t//x c h c t/*y*/ c n2 c s c t] c g h c")
	checkSpelled(t, whole(tailed(object(member("a", one)), y)), "t{ l ta:~ c t1 c t, 0 f c h c t/*y*/ c n2 c l c t} c g h c")
	checkSpelled(t, whole(array(tailed(array(one), x))), "t[ s t[ s t1 c t, 0 f c h c t//x c n2 c s c t] c g c t, 0 f c n2 c s c t] c g h c")
}

func TestBuildComments(t *testing.T) {
	one, two := numeral("1"), numeral("2")
	x, y, z := lineComment("x"), blockComment("y"), lineComment("")
	// Of the first node, and of the tree.
	checkSpelled(t, whole(led(null, x)), "t//x h c tnull c h c")
	checkSpelled(t, whole(led(null, x, y)), "t//x h c t/*y*/ c h c tnull c h c")
	checkSpelled(t, whole(led(array(), y, z, y)), "t/*y*/ h c t// c h c t/*y*/ c h c t[] c h c")
	checkSpelled(t, whole(led(array(one), x)), "t//x h c t[ s t1 c t, 0 f c n2 c s c t] c g c h c")
	checkSpelled(t, whole(null, x), "tnull h c t//x c h c")
	checkSpelled(t, whole(null, x, y, z), "tnull h c t//x c h c t/*y*/ c h c t// c h c")
	checkSpelled(t, whole(array(one), y), "t[ s t1 c t, 0 f c n2 c s c t] c g h c t/*y*/ c h c")
	checkSpelled(t, whole(led(tailed(object(), z), x), y), "t//x h c t{ h t// c n2 c h c t} c c h c t/*y*/ c h c")

	// Of items.
	checkSpelled(t, whole(array(led(one, x))), "t[ s t//x c h c t1 c t, 0 f c n2 c s c t] c g h c")
	checkSpelled(t, whole(array(led(one, x, y), led(two, z))), "t[ s t//x c h c t/*y*/ c h c t1 c t, c l c t// c h c t2 c t, 0 f c n2 c s c t] c g h c")
	checkSpelled(t, whole(array(one, led(array(two), x))), "t[ s t1 c t, c l c t//x c h c t[ s t2 c t, 0 f c n2 c s c t] c g c t, 0 f c n2 c s c t] c g h c")
	checkSpelled(t, whole(array(led(tailed(array(), y), x))), "t[ s t//x c h c t[ h t/*y*/ c n2 c h c t] c c t, 0 f c n2 c s c t] c g h c")
	checkSpelled(t, whole(array(led(object(), x))), "t[ s t//x c h c t{} c t, 0 f c n2 c s c t] c g h c")
	checkSpelled(t, whole(object(led(member("a", one), x))), "t{ l t//x c h c ta:~ c t1 c t, 0 f c n2 c l c t} c g h c")
	checkSpelled(t, whole(object(member("a", one), led(member("b", array(two)), x, y))),
		"t{ l ta:~ c t1 c t, c l c t//x c h c t/*y*/ c h c tb:~ c t[ s t2 c t, 0 f c n2 c s c t] c g c t, 0 f c n2 c l c t} c g h c")

	// In all places.
	checkSpelled(t, whole(led(tailed(array(led(one, y)), x), z), x),
		"t// h c t[ s t/*y*/ c h c t1 c t, 0 f c h c t//x c n2 c s c t] c g c h c t//x c h c")
	checkSpelled(t, whole(array(null), lineComment("a b"), lineComment("//"), lineComment("*/"), blockComment("//")),
		"t[ s tnull c t, 0 f c n2 c s c t] c g h c t//a~b c h c t//// c h c t//*/ c h c t/*//*/ c h c")
}

func TestBuildBlocks(t *testing.T) {
	cases := []struct{ text, elements string }{
		{"", "t/**/"}, {"a", "t/*a*/"}, {" a b ", "t/*~a~b~*/"}, {"*", "t/***/"}, {"/", "t/*/*/"},
		{"a\nb", "t/*a r c tb*/ c"}, {"a\n b", "t/*a r c t~b*/ c"}, {"a \nb\nc", "t/*a~ r c tb c r c tc*/ c"},
		{"\n", "t/* r c t*/ c"}, {"\na", "t/* r c ta*/ c"}, {"a\n", "t/*a r c t*/ c"}, {"\na\n", "t/* r c ta c r c t*/ c"},
		{"\n\n", "t/* r c t c r c t*/ c"}, {"a\n\nb", "t/*a r c t c r c tb*/ c"}, {"\n\n\n", "t/* r c t c r c t c r c t*/ c"},
		{"a\n\n\nb\n", "t/*a r c t c r c t c r c tb c r c t*/ c"}, {"*\n/", "t/** r c t/*/ c"}, {"é\n😀", "t/*é r c t😀*/ c"},
	}
	for _, c := range cases {
		b := blockComment(c.text)
		one := numeral("1")
		checkSpelled(t, whole(led(one, b)), c.elements+" h c t1 c h c")
		checkSpelled(t, whole(led(one, b, b)), c.elements+" h c "+c.elements+" c h c t1 c h c")
		checkSpelled(t, whole(one, b), "t1 h c "+c.elements+" c h c")
		checkSpelled(t, whole(tailed(array(), b)), "t[ h "+c.elements+" c n2 c h c t] c h c")
		checkSpelled(t, whole(tailed(array(one), b)), "t[ s t1 c t, 0 f c h c "+c.elements+" c n2 c s c t] c g h c")
		checkSpelled(t, whole(array(led(one, b))), "t[ s "+c.elements+" c h c t1 c t, 0 f c n2 c s c t] c g h c")
		checkSpelled(t, whole(object(led(member("k", one), b, lineComment("x")))), "t{ l "+c.elements+" c h c t//x c h c tk:~ c t1 c t, 0 f c n2 c l c t} c g h c")
	}
}

func TestBuildIndents(t *testing.T) {
	if impl.MaxIndent != 16 {
		t.Errorf("MaxIndent: %d", impl.MaxIndent)
	}
	trees := []impl.Tree{
		whole(null), whole(array(object(member("a", null)), tailed(object(), lineComment("x")))), whole(tailed(array(), lineComment("x")), blockComment("y\n")),
	}
	for _, tree := range trees {
		for indent := range impl.MaxIndent + 1 {
			checkBuild(t, tree, indent, plainBuild(tree, indent))
		}
		for _, indent := range []int{-1, -2, -16, impl.MaxIndent + 1, impl.MaxIndent + 2, 256, 1 << 32, math.MaxInt, math.MinInt} {
			checkNoBuild(t, "indent", tree, indent, impl.CodeBad)
			checkNoBuild(t, "indent and tree", impl.Tree{}, indent, impl.CodeBad)
		}
	}
	checkBuild(t, whole(array(null)), 0, spelled("t[ s tnull c t, 0 f c n0 c s c t] c g h c"))
	checkBuild(t, whole(array(null)), 16, spelled("t[ s tnull c t, 0 f c n16 c s c t] c g h c"))
	checkBuild(t, whole(object(member("a", tailed(array(), lineComment("x"))))), 7, spelled("t{ l ta:~ c t[ h t//x c n7 c h c t] c c t, 0 f c n7 c l c t} c g h c"))
	deep := whole(nested(impl.MaxDepth, null, yes))
	for _, indent := range []int{0, 1, impl.MaxIndent} {
		checkBuild(t, deep, indent, plainBuild(deep, indent))
	}
}

// badTrees are not valid, each by one fault.
func badTrees() []impl.Tree {
	one := numeral("1")
	return []impl.Tree{
		{}, {Tail: []impl.Comment{lineComment("x")}}, whole(word(7)), whole(word(-1)), whole(numeral("")), whole(numeral("01")), whole(numeral("1 ")), whole(numeral("null")),
		whole(textOf(-1)), whole(textOf(65536)), whole(object(keyOf(one, 65536))), whole(member("a", one)), whole(object(one)), whole(array(member("a", one))),
		whole(slices.Concat(one, one)), whole(array(one)[:1]), whole(array(one, one)[:2]), whole(changed(array(), func(n *impl.Node) { n.Count = -1 })), whole(tailed(one, lineComment("x"))),
		whole(one, lineComment("a\nb")), whole(one, lineComment("\r")), whole(one, blockComment("*/")), whole(led(one, blockComment("a\u2028"))), whole(led(one, lineComment("\xff"))),
		whole(array(led(one, lineComment("\n")))), whole(tailed(array(), blockComment("\r"))), whole(nested(impl.MaxDepth + 1)),
		whole(array(slices.Repeat([]value{one}, impl.MaxInput)...)), whole(one, slices.Repeat([]impl.Comment{{}}, impl.MaxInput+1)...),
		whole(numeral(strings.Repeat("1", impl.MaxTexts+1))), whole(textOf(slices.Repeat([]int{'a'}, impl.MaxTexts+1)...)),
		whole(changed(null, func(n *impl.Node) { n.Text = []byte("x") })), whole(changed(yes, func(n *impl.Node) { n.Units = []int{1} })), whole(changed(null, func(n *impl.Node) { n.Key = []int{1} })),
	}
}

func TestBuildBadTrees(t *testing.T) {
	for _, tree := range badTrees() {
		for _, indent := range []int{0, 2, impl.MaxIndent, -1, impl.MaxIndent + 1} {
			checkNoBuild(t, "not valid", tree, indent, impl.CodeBad)
		}
	}
}

// plainBuilder puts a document together from whole documents, by the words of
// chapter 6.
type plainBuilder struct {
	nodes  []impl.Node
	indent int
}

func rowDoc(docs ...doc) doc {
	if len(docs) == 0 {
		return nothing
	}
	return catDoc(docs[0], docs[1:]...)
}

func plainBuild(tree impl.Tree, indent int) doc {
	b := plainBuilder{tree.Nodes, indent}
	docs := append(b.item(), hard)
	for _, c := range tree.Tail {
		docs = append(docs, commentDoc(c), hard)
	}
	return rowDoc(docs...)
}

func commentDoc(c impl.Comment) doc {
	if !c.Block {
		return textDoc("//" + string(c.Text))
	}
	var docs []doc
	parts := strings.Split(string(c.Text), "\n")
	for i, part := range parts {
		if i == 0 {
			part = "/*" + part
		} else {
			docs = append(docs, raw)
		}
		if i == len(parts)-1 {
			part += "*/"
		}
		docs = append(docs, textDoc(part))
	}
	return rowDoc(docs...)
}

func plainUnits(units []int) string {
	var form strings.Builder
	for i := 0; i < len(units); i++ {
		if i+1 < len(units) && units[i]>>10 == 0x36 && units[i+1]>>10 == 0x37 {
			form.WriteRune(utf16.DecodeRune(rune(units[i]), rune(units[i+1])))
			i++
			continue
		}
		form.WriteString(plainQuote(units[i]))
	}
	return `"` + form.String() + `"`
}

var quotedName = regexp.MustCompile(`^"[A-Za-z_$][A-Za-z0-9_$]*"$`)

func plainKey(units []int) string {
	form := plainUnits(units)
	if quotedName.MatchString(form) {
		return strings.Trim(form, `"`)
	}
	return form
}

func (b *plainBuilder) item() []doc {
	n := b.nodes[0]
	b.nodes = b.nodes[1:]
	var docs []doc
	for _, c := range n.Lead {
		docs = append(docs, commentDoc(c), hard)
	}
	if n.Member {
		docs = append(docs, textDoc(plainKey(n.Key)+": "))
	}
	switch n.Kind {
	case impl.KindNumber:
		return append(docs, textDoc(string(n.Text)))
	case impl.KindString:
		return append(docs, textDoc(plainUnits(n.Units)))
	case impl.KindArray:
		return append(docs, b.list(n, "[", "]", soft))
	case impl.KindObject:
		return append(docs, b.list(n, "{", "}", line))
	}
	return append(docs, textDoc([]string{"null", "true", "false"}[n.Kind]))
}

func (b *plainBuilder) list(n impl.Node, opens, closes string, edge doc) doc {
	var tail []doc
	for _, c := range n.Tail {
		tail = append(tail, hard, commentDoc(c))
	}
	switch {
	case n.Count == 0 && len(tail) == 0:
		return textDoc(opens + closes)
	case n.Count == 0:
		return rowDoc(textDoc(opens), nestDoc(b.indent, rowDoc(tail...)), hard, textDoc(closes))
	}
	docs := append([]doc{edge}, b.item()...)
	for range n.Count - 1 {
		docs = append(append(docs, textDoc(","), line), b.item()...)
	}
	docs = append(append(docs, altDoc(textDoc(","), nothing)), tail...)
	return groupDoc(rowDoc(textDoc(opens), nestDoc(b.indent, rowDoc(docs...)), edge, textDoc(closes)))
}

func bytesIn(d doc) int {
	size := 0
	for _, p := range d {
		size += len(p.Text)
	}
	return size
}

// checkSize asks for a document of so many elements and bytes, or for CodeLimit
// where these are too many.
func checkSize(t *testing.T, name string, tree impl.Tree, elements, size int) {
	t.Helper()
	if !impl.ValidTree(tree) {
		t.Errorf("%s: the tree is not valid", name)
	}
	if d := plainBuild(tree, 1); len(d) != elements || bytesIn(d) != size {
		t.Errorf("%s: it has %d elements and %d bytes, not %d and %d", name, len(d), bytesIn(d), elements, size)
	}
	for _, indent := range []int{0, impl.MaxIndent} {
		if elements <= impl.MaxPieces && size <= impl.MaxTexts {
			checkBuild(t, tree, indent, plainBuild(tree, indent))
			checkFormatTree(t, tree, 1, indent)
			continue
		}
		checkNoBuild(t, name, tree, indent, impl.CodeLimit)
		checkNoFormatTree(t, name, tree, 1, indent, impl.CodeLimit)
		checkNoFormatTree(t, name, tree, impl.MaxWidth, indent, impl.CodeLimit)
	}
	for _, indent := range []int{-1, impl.MaxIndent + 1} {
		checkNoBuild(t, name, tree, indent, impl.CodeBad)
		checkNoFormatTree(t, name, tree, 1, indent, impl.CodeBad)
	}
	for _, width := range []int{-1, impl.MaxWidth + 1} {
		checkNoFormatTree(t, name, tree, width, 1, impl.CodeBad)
	}
	tree.Tail = append(slices.Clone(tree.Tail), lineComment("\n"))
	checkNoBuild(t, name+", not valid", tree, 1, impl.CodeBad)
	checkNoFormatTree(t, name+", not valid", tree, 1, 1, impl.CodeBad)
}

// Each line end in a block comes to four elements.
func TestBuildElementLimit(t *testing.T) {
	one := numeral("1")
	ends := func(n int) impl.Comment { return blockComment(strings.Repeat("\n", n)) }
	shapes := []struct {
		name           string
		make           func(c impl.Comment) impl.Tree
		elements, size int // beside the line ends
	}{
		{"before the whole", func(c impl.Comment) impl.Tree { return whole(led(one, c)) }, 7, 5},
		{"behind the whole", func(c impl.Comment) impl.Tree { return whole(one, c) }, 7, 5},
		{"in an empty list", func(c impl.Comment) impl.Tree { return whole(tailed(array(), c)) }, 12, 6},
		{"before an element", func(c impl.Comment) impl.Tree { return whole(array(led(one, c))) }, 21, 8},
		{"before a member", func(c impl.Comment) impl.Tree { return whole(object(led(member("k", one), c))) }, 23, 11},
		{"behind the last element", func(c impl.Comment) impl.Tree { return whole(tailed(array(one), c)) }, 21, 8},
		{"in an empty list in a list", func(c impl.Comment) impl.Tree { return whole(array(tailed(object(), c))) }, 26, 9},
	}
	for _, s := range shapes {
		most := (impl.MaxPieces - s.elements) / 4
		for n := most; n <= most+1; n++ {
			checkSize(t, s.name, s.make(ends(n)), 4*n+s.elements, s.size)
		}
	}
	// Exactly as many, and one more.
	checkSize(t, "MaxPieces", whole(tailed(array(), ends(9997))), impl.MaxPieces, 6)
	checkSize(t, "one more", whole(array(led(one, ends(9995)))), impl.MaxPieces+1, 8)
	checkSize(t, "far more", whole(led(one, ends(impl.MaxTexts-1))), 4*impl.MaxTexts+3, 5)
	checkNoBuild(t, "far more, in deep lists", whole(nested(impl.MaxDepth, led(one, ends(90000)))), 1, impl.CodeLimit)
}

func TestBuildElementLimitOfNodes(t *testing.T) {
	items := slices.Repeat([]value{null}, impl.MaxInput-1)
	checkSize(t, "as many nodes as can be", whole(array(items...)), 17+6*3998, 4*3999+3998+3)
	commented := slices.Repeat([]value{led(null, lineComment(""))}, impl.MaxInput-1)
	checkSize(t, "all but one with a comment", whole(array(append(commented[1:], null)...)), impl.MaxPieces-3, 4*3999+2*3998+3998+3)
	checkSize(t, "each with a comment", whole(array(commented...)), impl.MaxPieces+1, 4*3999+2*3999+3998+3)
	empty := tailed(array(), lineComment(""))
	mixed := slices.Concat([]value{empty, empty, empty}, commented[:3992], items[:4])
	checkSize(t, "MaxPieces of many nodes", whole(array(mixed...)), impl.MaxPieces, 4*3996+3*4+2*3992+3998+3)
	mixed[3998] = empty
	checkSize(t, "nine more of many nodes", whole(array(mixed...)), impl.MaxPieces+9, 4*3995+4*4+2*3992+3998+3)
}

func TestBuildTextLimit(t *testing.T) {
	const most = impl.MaxTexts
	a := func(n int) []int { return slices.Repeat([]int{'a'}, n) }
	digits := func(n int) string { return strings.Repeat("1", n) }
	checkSize(t, "a number", whole(numeral(digits(most))), 3, most)
	for more := -2; more <= 2; more++ {
		n := most + more
		checkSize(t, "a number in an array", whole(array(numeral(digits(n-3)))), 17, n)
		checkSize(t, "a string", whole(textOf(a(n-2)...)), 3, n)
		checkSize(t, "escapes", whole(textOf(append(slices.Repeat([]int{1}, 16000), a(n-96002)...)...)), 3, n)
		checkSize(t, "quotes", whole(textOf(append(slices.Repeat([]int{'"'}, 40000), a(n-80002)...)...)), 3, n)
		checkSize(t, "forms of three bytes", whole(textOf(append(slices.Repeat([]int{0x20ac}, 30000), a(n-90002)...)...)), 3, n)
		checkSize(t, "a name as a key", whole(object(keyOf(null, a(n-9)...))), 19, n)
		checkSize(t, "a string as a key", whole(object(keyOf(null, append(a(n-12), '-')...))), 19, n)
		checkSize(t, "a comment before", whole(led(null, lineComment(digits(n-6)))), 7, n)
		checkSize(t, "a comment behind", whole(null, blockComment(digits(n-8))), 7, n)
		checkSize(t, "a comment in a list", whole(tailed(object(), blockComment(digits(n-6)))), 12, n)
		// An LF is no byte of a Text.
		checkSize(t, "lines", whole(textOf(slices.Repeat([]int{0}, 16000)...), blockComment(strings.Repeat("\n", 1000)+digits(n-96006))), 4007, n)
	}
	checkSize(t, "far more", whole(textOf(slices.Repeat([]int{0xdc00}, most)...)), 3, 6*most+2)
	many := array(slices.Repeat([]value{textOf(slices.Repeat([]int{0}, 24)...)}, 3999)...)
	checkSize(t, "many strings", whole(many), 24005, 3999*(24*6+2)+3998+3)
	both := whole(led(textOf(slices.Repeat([]int{0}, 20000)...), blockComment(strings.Repeat("\n", 20000))))
	checkSize(t, "both limits", both, 80007, 120006)
}
