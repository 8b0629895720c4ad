package tests

import (
	"bytes"
	"testing"

	"loop.example/s02863/impl"
)

func stretchesOfDoc(d doc) []stretch {
	found := []stretch{stretchOf(d)}
	for _, p := range d {
		found = append(found, stretchOf(p.Text))
	}
	return found
}

// overwrite writes over all that a tree has, and what its lists have room for.
func overwrite(tree impl.Tree) {
	comments := func(list []impl.Comment) {
		for _, c := range list {
			fill(c.Text, '?')
		}
		fill(list, impl.Comment{Block: true, Text: []byte("?")})
	}
	for _, n := range tree.Nodes {
		fill(n.Key, 7)
		fill(n.Units, 7)
		fill(n.Text, '7')
		comments(n.Lead)
		comments(n.Tail)
	}
	fill(tree.Nodes, impl.Node{Kind: -1})
	comments(tree.Tail)
}

// formatTrees are trees with CodeOK, CodeBad and CodeLimit; in some of them one
// list stands at many places.
func formatTrees() []impl.Tree {
	rich, _, _ := impl.ParseTree([]byte("/*a\nb*/{/*c*/k:[1,2,'s',null,[],{}]/*d*/,'l m':[/*e*/],n:{//f\n}}//g"))
	one := numeral("1")
	return []impl.Tree{
		sharing(), rich, whole(null), whole(one), whole(textOf()), whole(textOf('a', 0xd800)), whole(array()), whole(object()), whole(array(null, null, null)), whole(array(array(), array(), array())),
		whole(tailed(array(), lineComment(""), lineComment(""))), whole(tailed(object(), blockComment("\n\n"), blockComment("\n\n"))), whole(led(null, blockComment("a\n\nb"), lineComment("x")), blockComment("\n")),
		whole(object(member("a", one), member("a", one), member("", textOf('x')))), whole(nested(20, one, led(yes, blocks("ab")...))),
		{}, whole(word(7)), whole(numeral("01")), whole(one, lineComment("\n")), whole(led(null, blockComment(string(bytes.Repeat([]byte("\n"), 10000))))), whole(textOf(make([]int, 20000)...)),
	}
}

func TestBuildMemory(t *testing.T) {
	for _, tree := range formatTrees() {
		for _, indent := range []int{0, 2, 17} {
			before := cloneTree(tree)
			name := showTree(before)[:min(200, len(showTree(before)))]
			first, code := impl.BuildDoc(tree, indent)
			second, _ := impl.BuildDoc(tree, indent)
			if !sameTree(tree, before) {
				t.Errorf("%s: the argument is changed", name)
			}
			checkApart(t, name, append(stretchesOfDoc(first), stretchesOfDoc(second)...))
			for _, s := range stretchesOf(tree) {
				checkApart(t, name, append(stretchesOfDoc(first), s))
			}
			want := cloneDoc(first)
			copied := cloneTree(tree)
			third, thirdCode := impl.BuildDoc(copied, indent)
			overwrite(copied)
			if !sameDoc(third, want) || thirdCode != code {
				t.Errorf("%s: the answer changes with the argument: %s", name, spell(third))
			}
			for _, p := range first {
				fill(p.Text, '!')
			}
			fill(first, impl.Piece{Kind: -1})
			if !sameDoc(second, want) || !sameTree(tree, before) {
				t.Errorf("%s: the answer is memory of another or of the argument", name)
			}
			if fourth, fourthCode := impl.BuildDoc(tree, indent); !sameDoc(fourth, want) || fourthCode != code {
				t.Errorf("%s: another answer at a later call: %s, code %d", name, spell(fourth), fourthCode)
			}
			if code != impl.CodeOK && len(want) > 0 {
				t.Errorf("%s: code %d beside %s", name, code, spell(want))
			}
		}
	}
}

func TestFormatTreeMemory(t *testing.T) {
	for _, tree := range formatTrees() {
		for _, width := range []int{-1, 0, 20, 80} {
			before := cloneTree(tree)
			name := showTree(before)[:min(200, len(showTree(before)))]
			first, code := impl.FormatTree(tree, width, 2)
			want := bytes.Clone(first)
			second, _ := impl.FormatTree(tree, width, 2)
			if !sameTree(tree, before) {
				t.Errorf("%s: the argument is changed", name)
			}
			checkApart(t, name, []stretch{stretchOf(first), stretchOf(second)})
			for _, s := range stretchesOf(tree) {
				checkApart(t, name, []stretch{stretchOf(first), s})
			}
			copied := cloneTree(tree)
			third, _ := impl.FormatTree(copied, width, 2)
			overwrite(copied)
			fill(first, '!')
			again, againCode := impl.FormatTree(tree, width, 2)
			if !bytes.Equal(second, want) || !bytes.Equal(third, want) || !bytes.Equal(again, want) || againCode != code || !sameTree(tree, before) {
				t.Errorf("%s: the answer is memory of another or of the argument", name)
			}
			if code != impl.CodeOK && len(want) > 0 {
				t.Errorf("%s: code %d beside %q", name, code, want)
			}
		}
	}
}

func TestFormatMemory(t *testing.T) {
	sources := []string{
		"", "1", "''", "'abc'", "[1,2]", "[1,2", "{a:1,'b c':'d'}", "//a\n1//b", "/*a\nb*/[/*c*/1/*d*/,]/*e*/", "[//\n]", "{/*a*/}", "[1 2]", "@", "\xff", "nul", "'a", "/*a*", "[[],[],{}]", "1\n", "[\n  1,\n  2,\n]\n",
	}
	for _, source := range sources {
		for _, width := range []int{-1, 0, 80} {
			format := func(b []byte) []byte { text, _, _ := impl.Format(b, width, 2); return text }
			for _, behind := range []byte{']', 'l', '\'', '/', '1', '\n', 0xa9} {
				checkMemory(t, "Format", format, []byte(source), behind, '!')
			}
		}
	}
}
