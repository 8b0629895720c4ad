package tests

import (
	"bytes"
	"math"
	"slices"
	"strconv"
	"strings"
	"testing"

	"loop.example/s02863/impl"
)

// value is a value of a tree with all that is below it, in preorder. The
// functions that put values together answer new lists of nodes, but their
// fields are those of the values that they are given.
type value = []impl.Node

func word(kind int) value         { return value{{Kind: kind}} }
func numeral(text string) value   { return value{{Kind: impl.KindNumber, Text: []byte(text)}} }
func textOf(units ...int) value   { return value{{Kind: impl.KindString, Units: units}} }
func array(items ...value) value  { return container(impl.KindArray, items) }
func object(items ...value) value { return container(impl.KindObject, items) }

func container(kind int, items []value) value {
	return slices.Concat(value{{Kind: kind, Count: len(items)}}, slices.Concat(items...))
}

func member(key string, v value) value {
	return changed(v, func(n *impl.Node) { n.Member, n.Key = true, unitsOf(key) })
}

func led(v value, comments ...impl.Comment) value {
	return changed(v, func(n *impl.Node) { n.Lead = slices.Concat(n.Lead, comments) })
}

func tailed(v value, comments ...impl.Comment) value {
	return changed(v, func(n *impl.Node) { n.Tail = slices.Concat(n.Tail, comments) })
}

// changed changes the first node of a value.
func changed(v value, change func(*impl.Node)) value {
	v = slices.Clone(v)
	change(&v[0])
	return v
}

func whole(v value, tail ...impl.Comment) impl.Tree {
	return impl.Tree{Nodes: v, Tail: tail}
}

func lineComment(text string) impl.Comment  { return impl.Comment{Text: []byte(text)} }
func blockComment(text string) impl.Comment { return impl.Comment{Block: true, Text: []byte(text)} }

// nested has so many arrays and objects inside each other, by turns; the
// innermost is an array.
func nested(depth int, inner ...value) value {
	var v value
	for i := range depth {
		n := impl.Node{Kind: impl.KindArray + i%2, Count: 1}
		if i > 0 && i%2 == 0 {
			n.Member, n.Key = true, unitsOf("k")
		}
		v = append(v, n)
	}
	v[depth-1].Kind, v[depth-1].Count = impl.KindArray, len(inner)
	return append(v, slices.Concat(inner...)...)
}

func showComments(comments []impl.Comment) string {
	shown := ""
	for _, c := range comments {
		mark := "//"
		if c.Block {
			mark = "/*"
		}
		shown += mark + strconv.Quote(string(c.Text))
	}
	return shown
}

// showTree writes all of a tree on one line; an empty list and none look alike.
func showTree(tree impl.Tree) string {
	var shown strings.Builder
	for _, n := range tree.Nodes {
		shown.WriteString(showComments(n.Lead))
		if n.Member {
			shown.WriteString("key")
		}
		for _, u := range n.Key {
			shown.WriteString("." + strconv.Itoa(u))
		}
		shown.WriteString("<" + strconv.Itoa(n.Kind) + " " + strconv.Quote(string(n.Text)))
		for _, u := range n.Units {
			shown.WriteString("." + strconv.Itoa(u))
		}
		shown.WriteString(" " + strconv.Itoa(n.Count) + showComments(n.Tail) + "> ")
	}
	return shown.String() + showComments(tree.Tail)
}

func sameTree(a, b impl.Tree) bool {
	return showTree(a) == showTree(b)
}

func cloneComments(comments []impl.Comment) []impl.Comment {
	copied := slices.Clone(comments)
	for i := range copied {
		copied[i].Text = bytes.Clone(copied[i].Text)
	}
	return copied
}

func cloneTree(tree impl.Tree) impl.Tree {
	copied := impl.Tree{Nodes: slices.Clone(tree.Nodes), Tail: cloneComments(tree.Tail)}
	for i := range copied.Nodes {
		n := &copied.Nodes[i]
		n.Lead, n.Tail = cloneComments(n.Lead), cloneComments(n.Tail)
		n.Key, n.Text, n.Units = slices.Clone(n.Key), bytes.Clone(n.Text), slices.Clone(n.Units)
	}
	return copied
}

// bare is the tree without its comments, by a second way.
func bare(tree impl.Tree) impl.Tree {
	copied := cloneTree(tree)
	copied.Tail = nil
	for i := range copied.Nodes {
		copied.Nodes[i].Lead = nil
		copied.Nodes[i].Tail = nil
	}
	return copied
}

// checkTree asks ValidTree and StripComments for one tree.
func checkTree(t *testing.T, name string, tree impl.Tree, want bool) {
	t.Helper()
	if impl.ValidTree(tree) != want {
		t.Errorf("%s: ValidTree(%.200s): %v", name, showTree(tree), !want)
	}
	stripped := impl.Tree{}
	if want {
		stripped = bare(tree)
	}
	if got := impl.StripComments(tree); !sameTree(got, stripped) {
		t.Errorf("%s: StripComments(%.200s): %.200s", name, showTree(tree), showTree(got))
	}
}

func TestTreeKindsAsNumbers(t *testing.T) {
	kinds := []int{impl.KindNull, impl.KindTrue, impl.KindFalse, impl.KindNumber, impl.KindString, impl.KindArray, impl.KindObject}
	if !slices.Equal(kinds, []int{0, 1, 2, 3, 4, 5, 6}) || impl.MaxDepth != 200 {
		t.Errorf("kinds: %v, depth %d", kinds, impl.MaxDepth)
	}
}

// plainValues has one value of each kind, in the order of the kinds.
func plainValues() []value {
	return []value{word(impl.KindNull), word(impl.KindTrue), word(impl.KindFalse), numeral("-1.5e3"), textOf('a', 0xd800, 65535, 0), array(), object()}
}

func TestPlainTrees(t *testing.T) {
	for kind, v := range plainValues() {
		checkTree(t, "alone", whole(v), true)
		checkTree(t, "element", whole(array(v)), true)
		checkTree(t, "member", whole(object(member("k", v))), true)
		checkTree(t, "both", whole(array(v, object(member("a", v), member("", v)), v)), true)
		checkTree(t, "comments", whole(led(v, lineComment("x"), blockComment("y")), blockComment("z")), true)
		checkTree(t, "tail", whole(tailed(v, lineComment("x"))), kind >= impl.KindArray)
	}
	checkTree(t, "empty string", whole(textOf()), true)
	checkTree(t, "one key twice", whole(object(member("a", array()), member("a", array()))), true)
	checkTree(t, "all", whole(array(plainValues()...)), true)
	checkTree(t, "zero node", impl.Tree{Nodes: make([]impl.Node, 1)}, true)
	checkTree(t, "zero tree", impl.Tree{}, false)
	checkTree(t, "no node", impl.Tree{Nodes: []impl.Node{}, Tail: []impl.Comment{}}, false)
	checkTree(t, "comments alone", impl.Tree{Tail: []impl.Comment{lineComment("x")}}, false)
}

// TestTreeEmptyLists has lists with no element where no list may be.
func TestTreeEmptyLists(t *testing.T) {
	for _, v := range plainValues() {
		full := changed(v, func(n *impl.Node) {
			n.Lead, n.Tail = []impl.Comment{}, []impl.Comment{}
			n.Key = []int{}
			if n.Kind != impl.KindString {
				n.Units = []int{}
			}
			if n.Kind != impl.KindNumber {
				n.Text = []byte{}
			}
		})
		checkTree(t, "empty lists", impl.Tree{Nodes: full, Tail: []impl.Comment{}}, true)
	}
}

func TestTreeKinds(t *testing.T) {
	for _, kind := range []int{-1, 7, -2, 8, 100, math.MaxInt, math.MinInt, 1 << 32, 3 + 1<<32, 5 - 1<<32} {
		checkTree(t, "kind", whole(word(kind)), false)
		checkTree(t, "kind of an element", whole(array(word(kind))), false)
		checkTree(t, "kind of a member", whole(object(member("a", word(kind)))), false)
		checkTree(t, "kind with a count", whole(container(kind, []value{array()})), false)
		checkTree(t, "kind with a member", whole(container(kind, []value{member("a", array())})), false)
		checkTree(t, "kind of a number", whole(changed(numeral("1"), func(n *impl.Node) { n.Kind = kind })), false)
	}
}

// TestTreeFields fills one field of a node, of each kind and at each place.
func TestTreeFields(t *testing.T) {
	fields := []struct {
		name   string
		holder int // the kind that may have it, or -1; KindArray: both lists
		fill   func(*impl.Node)
	}{
		{"Text of a number", impl.KindNumber, func(n *impl.Node) { n.Text = []byte("7") }},
		{"Text of a word", -1, func(n *impl.Node) { n.Text = []byte("a") }},
		{"Text of a blank", -1, func(n *impl.Node) { n.Text = []byte(" ") }},
		{"Units", impl.KindString, func(n *impl.Node) { n.Units = []int{'a'} }},
		{"Units of 0", impl.KindString, func(n *impl.Node) { n.Units = []int{0} }},
		{"Tail", impl.KindArray, func(n *impl.Node) { n.Tail = []impl.Comment{{}} }},
		{"Count below 0", -1, func(n *impl.Node) { n.Count = -1 }},
		{"least Count", -1, func(n *impl.Node) { n.Count = math.MinInt }},
		{"Count of 1", -1, func(n *impl.Node) { n.Count = 1 }},
		{"greatest Count", -1, func(n *impl.Node) { n.Count = math.MaxInt }},
	}
	for kind, v := range plainValues() {
		for _, f := range fields {
			full := changed(v, f.fill)
			may := kind == f.holder || f.holder == impl.KindArray && kind == impl.KindObject
			checkTree(t, f.name, whole(full), may)
			checkTree(t, f.name, whole(array(full)), may)
			checkTree(t, f.name, whole(object(member("k", full))), may)
			checkTree(t, f.name, whole(array(array(), full, array())), may)
		}
		keyed := changed(v, func(n *impl.Node) { n.Key = []int{'k'} })
		checkTree(t, "Key of no member", whole(keyed), false)
		checkTree(t, "Key of an element", whole(array(keyed)), false)
		checkTree(t, "Key of a member", whole(object(member("k", keyed))), true)
		checkTree(t, "Key in an object, but no member", whole(object(keyed)), false)
	}
	// A count on a value that is no list stays wrong where nodes follow for it.
	for kind := impl.KindNull; kind <= impl.KindString; kind++ {
		checkTree(t, "a list of another kind", whole(changed(array(array()), func(n *impl.Node) { n.Kind = kind })), false)
	}
}

func TestTreeNumbers(t *testing.T) {
	for _, form := range unsigned {
		for _, sign := range []string{"", "+", "-"} {
			checkTree(t, "number", whole(numeral(sign+form)), true)
		}
	}
	for _, form := range noNumbers {
		checkTree(t, "no number", whole(numeral(form)), false)
		checkTree(t, "no number in an object", whole(object(member("a", numeral("1")), member("b", numeral(form)))), false)
	}
	checkTree(t, "no Text", whole(word(impl.KindNumber)), false)
}

func TestTreeUnits(t *testing.T) {
	for _, u := range []int{0, 1, 'a', 127, 0xd7ff, 0xd800, 0xdbff, 0xdc00, 0xdfff, 0xe000, 0x2028, 65534, 65535} {
		checkTree(t, "unit", whole(textOf(u)), true)
		checkTree(t, "units", whole(textOf('a', u, 'b')), true)
		checkTree(t, "unit of a key", whole(object(keyOf(array(), u))), true)
		checkTree(t, "units of a key", whole(object(keyOf(array(), 'a', u))), true)
	}
	for _, u := range []int{-1, 65536, 0x10ffff, 1114112, math.MaxInt, math.MinInt, 'a' + 1<<32, 'a' - 1<<32} {
		checkTree(t, "no unit", whole(textOf(u)), false)
		checkTree(t, "no unit at the end", whole(textOf('a', 'b', u)), false)
		checkTree(t, "no unit inside", whole(textOf('a', u, 'b')), false)
		checkTree(t, "no unit in a key", whole(object(keyOf(array(), u))), false)
		checkTree(t, "no unit at the end of a key", whole(object(member("a", textOf()), keyOf(textOf(), 'a', u))), false)
	}
}

func keyOf(v value, units ...int) value {
	return changed(v, func(n *impl.Node) { n.Member, n.Key = true, units })
}

func TestTreeCounts(t *testing.T) {
	for _, make := range []func(...value) value{array, object} {
		item := array()
		if make()[0].Kind == impl.KindObject {
			item = member("k", array())
		}
		for items := range 5 {
			for _, count := range []int{0, 1, 2, 3, 4, 5, 6, -1, 4000, 4001, math.MaxInt, math.MinInt, 1 << 32, 1<<32 + items} {
				full := make(slices.Repeat([]value{item}, items)...)
				full[0].Count = count
				checkTree(t, "count", whole(full), count == items)
				checkTree(t, "count inside", whole(array(full)), count == items)
				checkTree(t, "count in a member", whole(object(member("a", full))), count == items)
			}
		}
	}
	checkTree(t, "two values", whole(slices.Concat(array(), array())), false)
	checkTree(t, "two words", whole(slices.Concat(word(impl.KindNull), word(impl.KindNull))), false)
	checkTree(t, "a value behind", whole(slices.Concat(array(array()), array())), false)
	checkTree(t, "a member behind", whole(slices.Concat(object(member("a", array())), member("b", array()))), false)
}

func TestTreeMembers(t *testing.T) {
	for _, v := range plainValues() {
		m := member("k", v)
		checkTree(t, "the whole a member", whole(m), false)
		checkTree(t, "the whole a member without a key", whole(member("", v)), false)
		checkTree(t, "a member in an array", whole(array(m)), false)
		checkTree(t, "a member without a key in an array", whole(array(member("", v))), false)
		checkTree(t, "an element in an object", whole(object(v)), false)
		checkTree(t, "an element behind a member", whole(object(m, v)), false)
		checkTree(t, "an element before a member", whole(object(v, m)), false)
		checkTree(t, "a member behind an element", whole(array(v, m)), false)
		checkTree(t, "a member of a member", whole(object(member("a", object(m)))), true)
		checkTree(t, "an element of a member", whole(object(member("a", object(v)))), false)
		checkTree(t, "a member behind a list in an array", whole(array(object(m), m)), false)
		checkTree(t, "an element behind a list in an array", whole(array(object(m), v)), true)
		checkTree(t, "an element behind a list in an object", whole(object(member("a", array(v)), v)), false)
		checkTree(t, "a member behind a list in an object", whole(object(member("a", array(v)), m)), true)
		checkTree(t, "a member in an array in an object", whole(object(member("a", array(m)))), false)
	}
}

// plainValid reads the kinds, counts and members of a tree: a stack of what is
// still asked for, true for a member.
func plainValid(nodes []impl.Node) bool {
	asked := []bool{false}
	for _, n := range nodes {
		if len(asked) == 0 || asked[len(asked)-1] != n.Member {
			return false
		}
		asked = append(asked[:len(asked)-1], slices.Repeat([]bool{n.Kind == impl.KindObject}, n.Count)...)
	}
	return len(asked) == 0
}

func TestShortTrees(t *testing.T) {
	var nodes []impl.Node
	for _, inObject := range []bool{false, true} {
		nodes = append(nodes, impl.Node{Member: inObject})
		for count := range 3 {
			nodes = append(nodes, impl.Node{Kind: impl.KindArray, Member: inObject, Count: count}, impl.Node{Kind: impl.KindObject, Member: inObject, Count: count})
		}
	}
	var grow func(list []impl.Node, more int)
	grow = func(list []impl.Node, more int) {
		if got := impl.ValidTree(impl.Tree{Nodes: list}); got != plainValid(list) {
			t.Fatalf("ValidTree(%s): %v", showTree(impl.Tree{Nodes: list}), got)
		}
		if more == 0 {
			return
		}
		for _, n := range nodes {
			grow(append(slices.Clip(list), n), more-1)
		}
	}
	grow(nil, 5)
}

// places puts comments at each place of a tree that can have them.
var places = []struct {
	name string
	put  func(comments ...impl.Comment) impl.Tree
}{
	{"Lead of the whole", func(c ...impl.Comment) impl.Tree { return whole(led(word(impl.KindNull), c...)) }},
	{"Lead of a list", func(c ...impl.Comment) impl.Tree { return whole(led(array(array()), c...)) }},
	{"Lead of an element", func(c ...impl.Comment) impl.Tree { return whole(array(array(), led(numeral("1"), c...))) }},
	{"Lead of a member", func(c ...impl.Comment) impl.Tree { return whole(object(member("a", led(textOf('a'), c...)))) }},
	{"Tail of an array", func(c ...impl.Comment) impl.Tree { return whole(tailed(array(array()), c...)) }},
	{"Tail of an empty array", func(c ...impl.Comment) impl.Tree { return whole(array(tailed(array(), c...))) }},
	{"Tail of an object", func(c ...impl.Comment) impl.Tree {
		return whole(array(tailed(object(member("a", array())), c...)))
	}},
	{"Tail of an empty object", func(c ...impl.Comment) impl.Tree { return whole(tailed(object(), c...)) }},
	{"Tail of the tree", func(c ...impl.Comment) impl.Tree { return whole(array(array()), c...) }},
}

func TestTreeComments(t *testing.T) {
	cases := []struct {
		text        string
		line, block bool
	}{
		{"", true, true}, {" ", true, true}, {"a", true, true}, {" é😀 ", true, true}, {"//", true, true}, {"/*", true, true},
		{"*", true, true}, {"/", true, true}, {"* /", true, true}, {"/*/", true, false}, {"\t\x00\x7f\v\f", true, true},
		{"\u2027\u202a\u0085\u00a0\ufeff", true, true}, {"\ufffd", true, true}, {"\uffff", true, true},
		{"*/", true, false}, {"a*/", true, false}, {"*/a", true, false}, {"a**/b", true, false}, {"\n*/", false, false}, {"*\n/", false, true},
		{"\n", false, true}, {"a\nb", false, true}, {"a\n\nb\n", false, true}, {"\na", false, true},
		{"\r", false, false}, {"a\rb", false, false}, {"\r\n", false, false}, {"a\n\r", false, false}, {"\n a\r", false, false},
		{"\u2028", false, false}, {"a\u2028b", false, false}, {"\u2029", false, false}, {"ab\u2029", false, false}, {"\n\u2028", false, false},
	}
	for _, place := range places {
		for _, c := range cases {
			checkTree(t, place.name, place.put(lineComment(c.text)), c.line)
			checkTree(t, place.name, place.put(blockComment(c.text)), c.block)
			// One that is not valid is found wherever it stands among others.
			checkTree(t, place.name, place.put(lineComment("x"), lineComment(c.text), blockComment("\n")), c.line)
			checkTree(t, place.name, place.put(blockComment("x"), blockComment(c.text)), c.block)
			checkTree(t, place.name, place.put(blockComment(c.text), lineComment("y")), c.block)
		}
		for _, c := range badTexts {
			checkTree(t, place.name, place.put(lineComment(c.text)), false)
			checkTree(t, place.name, place.put(blockComment(c.text)), false)
		}
		for _, c := range goodTexts {
			line := !strings.ContainsAny(c.text, "\r\u2028\u2029")
			checkTree(t, place.name, place.put(lineComment(c.text)), line)
			checkTree(t, place.name, place.put(blockComment(c.text)), line)
		}
	}
}

func TestTreeNodeLimit(t *testing.T) {
	full := slices.Repeat([]value{word(impl.KindNull)}, impl.MaxInput)
	checkTree(t, "MaxInput nodes", whole(array(full[1:]...)), true)
	checkTree(t, "one node more", whole(array(full...)), false)
	checkTree(t, "MaxInput nodes, one fewer", whole(array(full[2:]...)), true)
	inner := array(full[2:]...)
	checkTree(t, "MaxInput nodes in two lists", whole(array(inner)), true)
	checkTree(t, "one node more in two lists", whole(array(inner, inner[1:2])), false)
	members := slices.Repeat([]value{member("k", array())}, impl.MaxInput)
	checkTree(t, "MaxInput nodes in an object", whole(object(members[1:]...)), true)
	checkTree(t, "one node more in an object", whole(object(members...)), false)
}

func TestTreeCommentLimit(t *testing.T) {
	for _, c := range []impl.Comment{lineComment(""), blockComment("x")} {
		full := slices.Repeat([]impl.Comment{c}, impl.MaxInput)
		for _, place := range places {
			checkTree(t, place.name, place.put(full...), true)
			checkTree(t, place.name, place.put(append(full, c)...), false)
			if tree := place.put(full[2:]...); len(tree.Tail) == 0 {
				tree.Tail = []impl.Comment{c, c}
				checkTree(t, place.name+", rest behind", tree, true)
				tree.Tail = []impl.Comment{c, c, c}
				checkTree(t, place.name+", one more behind", tree, false)
			}
		}
		half := full[:impl.MaxInput/4]
		all := led(tailed(array(led(array(), half...)), half...), half...)
		checkTree(t, "comments at all places", whole(all, half...), true)
		checkTree(t, "comments at all places and one", whole(led(all, c), half...), false)
		checkTree(t, "comments at all places and one in a Tail", whole(tailed(all, c), half...), false)
		checkTree(t, "comments at all places and one behind", whole(all, append(slices.Clone(half), c)...), false)
	}
}

// TestTreeTextLimit fills each list that counts, alone and with the others.
func TestTreeTextLimit(t *testing.T) {
	digits := func(n int) string { return strings.Repeat("1", n) }
	units := func(n int) []int { return slices.Repeat([]int{65535}, n) }
	full := []struct {
		name string
		make func(n int) impl.Tree
	}{
		{"Text", func(n int) impl.Tree { return whole(numeral(digits(n))) }},
		{"Units", func(n int) impl.Tree { return whole(textOf(units(n)...)) }},
		{"Key", func(n int) impl.Tree { return whole(object(keyOf(array(), units(n)...))) }},
		{"Key and Units", func(n int) impl.Tree { return whole(object(keyOf(textOf(units(100)...), units(n-100)...))) }},
		{"Key and Text", func(n int) impl.Tree { return whole(object(keyOf(numeral(digits(n-1)), 'k'))) }},
		{"two Texts", func(n int) impl.Tree { return whole(array(numeral(digits(n/2)), numeral(digits(n-n/2)))) }},
		{"all", func(n int) impl.Tree {
			list := object(keyOf(numeral("12"), units(3)...), keyOf(led(textOf(units(4)...), lineComment("12345")), 6, 5, 4, 3, 2, 1))
			return whole(led(tailed(list, blockComment(digits(7))), lineComment(digits(8))), lineComment(digits(n-35)))
		}},
	}
	for _, place := range places {
		full = append(full, struct {
			name string
			make func(n int) impl.Tree
		}{place.name, func(n int) impl.Tree {
			others := 0
			for _, node := range place.put().Nodes {
				others += len(node.Key) + len(node.Text) + len(node.Units)
			}
			return place.put(lineComment(digits(n/2)), blockComment(digits(n-n/2-others)))
		}})
	}
	for _, f := range full {
		checkTree(t, f.name+" of MaxTexts elements", f.make(impl.MaxTexts), true)
		checkTree(t, f.name+" of one fewer", f.make(impl.MaxTexts-1), true)
		checkTree(t, f.name+" of one more", f.make(impl.MaxTexts+1), false)
		checkTree(t, f.name+" of many more", f.make(2*impl.MaxTexts), false)
	}
	// Bytes are counted, not code points.
	checkTree(t, "bytes", whole(array(), lineComment(strings.Repeat("é", impl.MaxTexts/2))), true)
	checkTree(t, "one byte more", whole(array(), lineComment(strings.Repeat("é", impl.MaxTexts/2)+"a")), false)
	checkTree(t, "points", whole(array(), lineComment(strings.Repeat("😀", impl.MaxTexts/4+1))), false)
}

func TestTreeDepthLimit(t *testing.T) {
	for _, inner := range [][]value{nil, {word(impl.KindNull)}, {word(impl.KindNull), textOf('a')}} {
		checkTree(t, "MaxDepth", whole(nested(impl.MaxDepth, inner...)), true)
		checkTree(t, "one more", whole(nested(impl.MaxDepth+1, inner...)), false)
		checkTree(t, "far more", whole(nested(impl.MaxInput-5, inner...)), false)
		checkTree(t, "as many as there can be", whole(nested(impl.MaxInput-len(inner), inner...)), false)
	}
	deep := nested(impl.MaxDepth - 1)
	for _, last := range []value{array(), object()} {
		checkTree(t, "MaxDepth twice", whole(array(deep, deep)), true)
		checkTree(t, "one more behind", whole(array(deep, last, array(deep))), false)
		checkTree(t, "one more before", whole(array(array(deep), deep)), false)
		checkTree(t, "one more at the end of a list", whole(array(nested(impl.MaxDepth-1, numeral("1"), last))), false)
		checkTree(t, "as deep at the end of a list", whole(array(nested(impl.MaxDepth-2, numeral("1"), last))), true)
	}
	// Lists side by side are not inside each other.
	checkTree(t, "side by side", whole(array(slices.Repeat([]value{array(object())}, 1000)...)), true)
}
