package tests

import (
	"bytes"
	"slices"
	"testing"
	"unsafe"

	"loop.example/s02863/impl"
)

// stretch is where a list lies, with the room behind its last element.
type stretch struct {
	from, to uintptr
}

func stretchOf[E any](list []E) stretch {
	from := uintptr(unsafe.Pointer(unsafe.SliceData(list)))
	var e E
	return stretch{from, from + uintptr(cap(list))*unsafe.Sizeof(e)}
}

func stretchesOfComments(comments []impl.Comment) []stretch {
	found := []stretch{stretchOf(comments)}
	for _, c := range comments {
		found = append(found, stretchOf(c.Text))
	}
	return found
}

func stretchesOf(tree impl.Tree) []stretch {
	found := append(stretchesOfComments(tree.Tail), stretchOf(tree.Nodes))
	for _, n := range tree.Nodes {
		found = append(found, stretchOf(n.Key), stretchOf(n.Text), stretchOf(n.Units))
		found = append(found, stretchesOfComments(n.Lead)...)
		found = append(found, stretchesOfComments(n.Tail)...)
	}
	return found
}

// checkApart asks that no two lists have memory in common.
func checkApart(t *testing.T, name string, found []stretch) {
	t.Helper()
	found = slices.DeleteFunc(found, func(s stretch) bool { return s.from == s.to })
	slices.SortFunc(found, func(a, b stretch) int {
		if a.from < b.from {
			return -1
		}
		return 1
	})
	for i := 1; i < len(found); i++ {
		if found[i].from < found[i-1].to {
			t.Errorf("%s: two lists share memory", name)
			return
		}
	}
}

func TestParseMemory(t *testing.T) {
	sources := []string{
		"", "1", "''", "'abc'", "null", "{a:1,'b':'c',d:[1,2,{}]}", "//a\n1//b", "/*a*/[/*b*/1/*c*/,/*d*/2/*e*/,/*f*/]/*g*/", "{/*a*/k/*b*/:/*c*/{/*d*/},/*e*/}",
		"[//\n//\n//\n]", "[1 2]", "[", "@", "\xff", "{a:[[/*\r\n*/]],b:[Infinity,'\\u0041']}//", "{null:null,'':''}", "[[],[],[[]],[[],[]]]",
		"{a:1,a:1,a:1}/**//**/", "/*a*/ /*a*/ 1 /*a*/ /*a*/ /*a*/",
	}
	for _, source := range sources {
		given, all := roomy([]byte(source), '/')
		before := bytes.Clone(all)
		tree, code, at := impl.ParseTree(given)
		if !bytes.Equal(all, before) {
			t.Errorf("ParseTree(%q) writes into its argument: %q", source, all)
		}
		checkApart(t, source, append(stretchesOf(tree), stretchOf(given)))
		want := cloneTree(tree)
		fill(all, 'z')
		if !sameTree(tree, want) {
			t.Errorf("ParseTree(%q): the answer changes with the argument", source)
		}
		second, _, _ := impl.ParseTree([]byte(source))
		checkApart(t, source, append(stretchesOf(tree), stretchesOf(second)...))
		third, codeLater, atLater := impl.ParseTree([]byte(source))
		if !sameTree(third, want) || codeLater != code || atLater != at {
			t.Errorf("ParseTree(%q): another answer at a later call", source)
		}
	}
}

// TestParseBehind has an argument that would go on well behind its end.
func TestParseBehind(t *testing.T) {
	for _, source := range []string{"", "1", "[1", "[1,", "{", "{a", "{a:", "{a:1", "nul", "'a", "/*a*", "//a", "/", "a\xc3", "/*\r"} {
		for _, behind := range []string{"]", "}", "l", "'", "/", "\n", "1", ":", "\xa9", "*/1"} {
			whole := []byte(source + behind)
			tree, code, at := impl.ParseTree(whole[:len(source)])
			wantTree, wantCode, wantAt := plainParse(source)
			if !sameTree(tree, wantTree) || code != wantCode || at != wantAt {
				t.Errorf("ParseTree(%q) before %q: code %d at %d", source, behind, code, at)
			}
		}
	}
}

// sharing has one list at many places.
func sharing() impl.Tree {
	units, digits := unitsOf("abc"), []byte("123")
	comments := []impl.Comment{{Text: digits}, {Block: true, Text: digits}}
	item := func(n impl.Node) value {
		n.Lead, n.Member, n.Key = comments, true, units
		return value{n}
	}
	v := object(item(impl.Node{Kind: impl.KindNumber, Text: digits}), item(impl.Node{Kind: impl.KindString, Units: units}),
		item(impl.Node{Kind: impl.KindNumber, Text: digits}), item(impl.Node{Kind: impl.KindArray, Tail: comments}))
	return whole(tailed(led(v, comments...), comments...), comments...)
}

func TestStripMemory(t *testing.T) {
	trees := []impl.Tree{
		sharing(), whole(null), whole(textOf(1, 2, 3), lineComment("a")), whole(array(plainValues()...)), whole(tailed(array(), lineComment("a"), blockComment("b"))),
		whole(object(member("a", array()), member("", led(object(), lineComment("c"))))), {}, whole(word(7), lineComment("x")), whole(array(numeral("1"), numeral("01"))),
	}
	for _, tree := range trees {
		before := cloneTree(tree)
		valid := impl.ValidTree(tree)
		stripped := impl.StripComments(tree)
		if !sameTree(tree, before) {
			t.Errorf("%.200s: the argument is changed: %.200s", showTree(before), showTree(tree))
		}
		checkApart(t, showTree(before), stretchesOf(stripped))
		for _, s := range stretchesOf(tree) {
			checkApart(t, showTree(before), append(stretchesOf(stripped), s))
		}
		again := impl.StripComments(tree)
		checkApart(t, showTree(before), append(stretchesOf(stripped), stretchesOf(again)...))
		want := impl.Tree{}
		if valid {
			want = bare(before)
		}
		for i := range tree.Nodes {
			fill(tree.Nodes[i].Key, 7)
			fill(tree.Nodes[i].Units, 7)
			fill(tree.Nodes[i].Text, '7')
		}
		fill(tree.Nodes, impl.Node{Kind: -1})
		if !sameTree(stripped, want) || !sameTree(again, want) {
			t.Errorf("%.200s: the answer changes with the argument: %.200s", showTree(before), showTree(stripped))
		}
	}
}

// TestTreeRoom has nodes and units behind the ends of lists.
func TestTreeRoom(t *testing.T) {
	nodes := array(array(), array())
	checkTree(t, "a node behind the end", impl.Tree{Nodes: nodes[:2]}, false)
	checkTree(t, "a value with nodes behind", impl.Tree{Nodes: array(array(), array())[1:2]}, true)
	units := []int{'a', -1}
	checkTree(t, "no unit behind the end", whole(textOf(units[:1]...)), true)
	checkTree(t, "no number behind the end", whole(value{{Kind: impl.KindNumber, Text: []byte("1a")[:1]}}), true)
	checkTree(t, "the end of a block behind the end", whole(array(), impl.Comment{Block: true, Text: []byte("*/")[:1]}), true)
	checkTree(t, "half a form", whole(array(), impl.Comment{Text: []byte("é")[:1]}), false)
	comments := []impl.Comment{{}, lineComment("\n")}
	checkTree(t, "no comment behind the end", whole(array(), comments[:1]...), true)
}
