package tests

import (
	"strings"
	"testing"

	"loop.example/s02863/impl"
)

// blocks are comments with one letter each.
func blocks(letters string) []impl.Comment {
	var comments []impl.Comment
	for _, letter := range letters {
		comments = append(comments, blockComment(string(letter)))
	}
	return comments
}

// commented writes each letter between two marks as a comment: "<ab>" becomes
// "/*a*/ /*b*/".
func commented(source string) string {
	var written strings.Builder
	inside := false
	for _, letter := range source {
		switch {
		case letter == '<' || letter == '>':
			inside = letter == '<'
		case inside:
			written.WriteString("/*" + string(letter) + "*/ ")
		default:
			written.WriteRune(letter)
		}
	}
	return written.String()
}

func TestCommentPlaces(t *testing.T) {
	one, two := numeral("1"), numeral("2")
	cases := []struct {
		source string
		want   impl.Tree
	}{
		// Around the whole value.
		{"<a>1", whole(led(one, blocks("a")...))},
		{"1<a>", whole(one, blocks("a")...)},
		{"<ab>1<cd>", whole(led(one, blocks("ab")...), blocks("cd")...)},
		{"<ab>[]<cd>", whole(led(array(), blocks("ab")...), blocks("cd")...)},
		{"<a>{}<b>", whole(led(object(), blocks("a")...), blocks("b")...)},
		{"<a>''<b>", whole(led(textOf(), blocks("a")...), blocks("b")...)},
		{"<a>null<b>", whole(led(null, blocks("a")...), blocks("b")...)},
		// In an empty list.
		{"[<a>]", whole(tailed(array(), blocks("a")...))},
		{"[<abc>]", whole(tailed(array(), blocks("abc")...))},
		{"{<ab>}", whole(tailed(object(), blocks("ab")...))},
		{"[[<a>],{<b>}]", whole(array(tailed(array(), blocks("a")...), tailed(object(), blocks("b")...)))},
		// Around elements and commas.
		{"[<a>1]", whole(array(led(one, blocks("a")...)))},
		{"[1<a>]", whole(tailed(array(one), blocks("a")...))},
		{"[1<a>,]", whole(tailed(array(one), blocks("a")...))},
		{"[1,<a>]", whole(tailed(array(one), blocks("a")...))},
		{"[1<ab>,<cd>]", whole(tailed(array(one), blocks("abcd")...))},
		{"[1<a>,2]", whole(array(one, led(two, blocks("a")...)))},
		{"[1,<a>2]", whole(array(one, led(two, blocks("a")...)))},
		{"[1<ab>,<cd>2]", whole(array(one, led(two, blocks("abcd")...)))},
		{"<a>[<b>1<c>,<d>2<e>,<f>]<g>", whole(led(tailed(array(led(one, blocks("b")...), led(two, blocks("cd")...)), blocks("ef")...), blocks("a")...), blocks("g")...)},
		{"[<a>[<b>]<c>,<d>[<e>]<f>]", whole(tailed(array(led(tailed(array(), blocks("b")...), blocks("a")...), led(tailed(array(), blocks("e")...), blocks("cd")...)), blocks("f")...))},
		{"[<a>[<b>1<c>]<d>]", whole(tailed(array(led(tailed(array(led(one, blocks("b")...)), blocks("c")...), blocks("a")...)), blocks("d")...))},
		// Around members, their keys, colons and commas.
		{"{<a>k:1}", whole(object(led(member("k", one), blocks("a")...)))},
		{"{k<a>:1}", whole(object(led(member("k", one), blocks("a")...)))},
		{"{k:<a>1}", whole(object(led(member("k", one), blocks("a")...)))},
		{"{k:1<a>}", whole(tailed(object(member("k", one)), blocks("a")...))},
		{"{k:1<a>,}", whole(tailed(object(member("k", one)), blocks("a")...))},
		{"{k:1,<a>}", whole(tailed(object(member("k", one)), blocks("a")...))},
		{"{<ab>'k'<cd>:<ef>1<gh>,<ij>}", whole(tailed(object(led(member("k", one), blocks("abcdef")...)), blocks("ghij")...))},
		{"{<a>k<b>:<c>1<d>,<e>l<f>:<g>2<h>}", whole(tailed(object(led(member("k", one), blocks("abc")...), led(member("l", two), blocks("defg")...)), blocks("h")...))},
		{"{k<a>:<b>[<c>]<d>}", whole(tailed(object(led(member("k", tailed(array(), blocks("c")...)), blocks("ab")...)), blocks("d")...))},
		{"{k<a>:<b>[<c>1<d>,<e>]<f>}", whole(tailed(object(led(member("k", tailed(array(led(one, blocks("c")...)), blocks("de")...)), blocks("ab")...)), blocks("f")...))},
		{"{k:<a>{<b>l<c>:<d>1<e>}<f>,<g>m:2}", whole(object(
			led(member("k", tailed(object(led(member("l", one), blocks("bcd")...)), blocks("e")...)), blocks("a")...),
			led(member("m", two), blocks("fg")...)))},
		{"{<a>null<b>:<c>null<d>}<e>", whole(tailed(object(led(member("null", null), blocks("abc")...)), blocks("d")...), blocks("e")...)},
	}
	for _, c := range cases {
		checkParse(t, commented(c.source), c.want)
		checkParse(t, strings.ReplaceAll(commented(c.source), "*/ ", "*/"), c.want)
		checkParse(t, "\n"+strings.ReplaceAll(commented(c.source), "*/ ", "*/\n\n\t"), c.want)
		lines := strings.NewReplacer("/*", "//", "*/ ", "\r\n").Replace(commented(c.source))
		checkParse(t, lines, inLines(c.want))
	}
}

// inLines makes every comment one of a line.
func inLines(tree impl.Tree) impl.Tree {
	tree = cloneTree(tree)
	turn := func(comments []impl.Comment) {
		for i := range comments {
			comments[i].Block = false
		}
	}
	turn(tree.Tail)
	for _, n := range tree.Nodes {
		turn(n.Lead)
		turn(n.Tail)
	}
	return tree
}

func TestCommentTexts(t *testing.T) {
	for _, text := range []string{"", " ", "a", " a b ", "//", "/", "*", "**", "/*", " é😀 ", "'", `"`, `\`, `\n`, "[", "}", ",", ":", "@", "\xef\xbb\xbf", "\x00\x7f\t\v\f", "\u00a0\u0085", "\u2027\u202a", "null", "01"} {
		one := numeral("1")
		checkParse(t, "/*"+text+"*/1", whole(led(one, blockComment(text))))
		checkParse(t, "1/*"+text+"*/", whole(one, blockComment(text)))
		checkParse(t, "1//"+text, whole(one, lineComment(text)))
		for _, stop := range []string{"\n", "\r", "\r\n", "\u2028", "\u2029", "\n\r", "\n\n"} {
			checkParse(t, "//"+text+stop+"1", whole(led(one, lineComment(text))))
			checkParse(t, "[1,//"+text+stop+"//"+text+stop+"]", whole(tailed(array(one), lineComment(text), lineComment(text))))
			checkParse(t, "[1,//"+text+stop+"/*"+text+"*///"+text+stop+"]", whole(tailed(array(one), lineComment(text), blockComment(text), lineComment(text))))
		}
	}
	checkParse(t, "//*/\n1", whole(led(numeral("1"), lineComment("*/"))))
	checkParse(t, "/***/1", whole(led(numeral("1"), blockComment("*"))))
	checkParse(t, "/*/*/1", whole(led(numeral("1"), blockComment("/"))))
	checkParse(t, "/**//**/1/***/", whole(led(numeral("1"), blockComment(""), blockComment("")), blockComment("*")))
}

func TestCommentLineEnds(t *testing.T) {
	ends := []struct {
		text string
		want string
	}{
		{"\n", "\n"}, {"\r", "\n"}, {"\r\n", "\n"}, {"\u2028", "\n"}, {"\u2029", "\n"},
		{"\n\r", "\n\n"}, {"\r\r", "\n\n"}, {"\r\r\n", "\n\n"}, {"\r\n\n", "\n\n"}, {"\r\n\r\n", "\n\n"}, {"\n\r\n", "\n\n"}, {"\n\n", "\n\n"}, {"\r\n\r", "\n\n"},
		{"\u2028\u2029", "\n\n"}, {"\r\u2028\n", "\n\n\n"}, {"\r \n", "\n \n"}, {"\r*\n", "\n*\n"}, {"*\r/", "*\n/"}, {"*\u2028/", "*\n/"}, {"*\r\n/", "*\n/"},
	}
	for _, e := range ends {
		for _, around := range []struct{ before, behind string }{{"", ""}, {"a", ""}, {"", "b"}, {"a", "b"}, {" é", "😀 "}, {"\t", "\v"}, {"*", "*"}} {
			comment := blockComment(around.before + e.want + around.behind)
			source := "/*" + around.before + e.text + around.behind + "*/"
			checkParse(t, source+"1", whole(led(numeral("1"), comment)))
			checkParse(t, "1"+source, whole(numeral("1"), comment))
			checkParse(t, "[1,"+source+"]", whole(tailed(array(numeral("1")), comment)))
			checkParse(t, "{a"+source+":"+source+"1}", whole(object(led(member("a", numeral("1")), comment, comment))))
		}
	}
	// A line end in a string is not one of a comment.
	checkParse(t, "'a\\\r\nb\u2028'/*\r\n*/", whole(textOf('a', 'b', 0x2028), blockComment("\n")))
}
