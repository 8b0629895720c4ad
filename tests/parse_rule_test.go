package tests

import (
	"regexp"
	"slices"
	"strconv"
	"strings"
	"testing"

	"loop.example/s02863/impl"
)

// A text is written with a letter a token: n for a name that is a key only, w
// for one that is a value too, s for a string, d for a number, and the marks as
// they are. Whole lists are replaced by v until none is left; what remains of a
// text that can go on has the form that unfinishedForm says.
const (
	valueClass   = `[wsdv]`
	memberClass  = `[nws]:` + valueClass
	openingClass = `(?:\[(?:` + valueClass + `,)*|\{(?:` + memberClass + `,)*[nws]:)`
)

var (
	listForm = regexp.MustCompile(`\[(?:` + valueClass + `(?:,` + valueClass + `)*,?)?\]|` +
		`\{(?:` + memberClass + `(?:,` + memberClass + `)*,?)?\}`)
	finishedForm   = regexp.MustCompile(`^` + valueClass + `$`)
	unfinishedForm = regexp.MustCompile(`^` + openingClass + `*` +
		`(?:\[(?:` + valueClass + `,)*` + valueClass + `?|\{(?:` + memberClass + `,)*(?:[nws](?::` + valueClass + `?)?)?)?$`)
	lineEndForm = regexp.MustCompile(`\r\n|[\n\r\x{2028}\x{2029}]`)
)

func letterOf(form string, kind int) string {
	switch kind {
	case impl.TokName:
		if slices.Contains([]string{"null", "true", "false", "Infinity", "NaN"}, form) {
			return "w"
		}
		return "n"
	case impl.TokNumber:
		return "d"
	case impl.TokString:
		return "s"
	}
	return form
}

func reduced(letters string) string {
	for {
		shorter := listForm.ReplaceAllString(letters, "v")
		if shorter == letters {
			return letters
		}
		letters = shorter
	}
}

// plainFault answers the offset of the fault of the grammar, -1 for none.
func plainFault(source string, tokens []impl.Token) int {
	letters := ""
	for _, token := range tokens {
		letters = reduced(letters + letterOf(source[token.At:token.At+token.Len], token.Kind))
		if !finishedForm.MatchString(letters) && !unfinishedForm.MatchString(letters) {
			return token.At
		}
	}
	if finishedForm.MatchString(letters) {
		return -1
	}
	return len(source)
}

func plainComment(form string) impl.Comment {
	if strings.HasPrefix(form, "//") {
		return lineComment(form[2:])
	}
	return blockComment(lineEndForm.ReplaceAllString(form[2:len(form)-2], "\n"))
}

// plainParse reads a text token by token. A comment belongs to the next token
// that begins a value or closes a list, whatever else stands between.
func plainParse(source string) (impl.Tree, int, int) {
	all, code, at := plainLex(source)
	if code != impl.CodeOK {
		return impl.Tree{}, code, at
	}
	var tokens []impl.Token
	before := map[int][]impl.Comment{}
	isComment := func(token impl.Token) bool { return token.Kind >= impl.TokComment }
	for i, token := range all {
		if !isComment(token) {
			tokens = append(tokens, token)
			continue
		}
		rest := slices.DeleteFunc(slices.Clone(all[i:]), isComment)
		for len(rest) > 0 && (rest[0].Kind == impl.TokComma || rest[0].Kind == impl.TokColon || len(rest) > 1 && rest[1].Kind == impl.TokColon) {
			rest = rest[1:]
		}
		owner := len(source)
		if len(rest) > 0 {
			owner = rest[0].At
		}
		before[owner] = append(before[owner], plainComment(source[token.At:token.At+token.Len]))
	}
	if at := plainFault(source, tokens); at >= 0 {
		return impl.Tree{}, impl.CodeSyntax, at
	}
	return plainNodes(source, tokens, before)
}

func plainNodes(source string, tokens []impl.Token, before map[int][]impl.Comment) (impl.Tree, int, int) {
	tree := impl.Tree{Tail: before[len(source)]}
	var inside []int
	var next impl.Node
	for i, token := range tokens {
		form := source[token.At : token.At+token.Len]
		units, _ := plainString(form)
		if token.Kind == impl.TokName {
			units = unitsOf(form)
		}
		switch {
		case token.Kind == impl.TokColon || token.Kind == impl.TokComma:
			continue
		case token.Kind == impl.TokClose || token.Kind == impl.TokEnd:
			tree.Nodes[inside[len(inside)-1]].Tail = before[token.At]
			inside = inside[:len(inside)-1]
			continue
		case i+1 < len(tokens) && tokens[i+1].Kind == impl.TokColon:
			next.Member, next.Key = true, units
			continue
		}
		next.Lead = before[token.At]
		next.Kind = slices.Index([]string{"null", "true", "false", "d", "s", "[", "{"}, strings.Replace(letterOf(form, token.Kind), "w", form, 1))
		switch next.Kind {
		case -1, impl.KindNumber:
			next.Kind, next.Text = impl.KindNumber, []byte(form)
		case impl.KindString:
			next.Units = units
		}
		if len(inside) > 0 {
			tree.Nodes[inside[len(inside)-1]].Count++
		}
		tree.Nodes = append(tree.Nodes, next)
		if next.Kind >= impl.KindArray {
			inside = append(inside, len(tree.Nodes)-1)
			if len(inside) > 200 {
				return impl.Tree{}, impl.CodeLimit, token.At
			}
		}
		next = impl.Node{}
	}
	return tree, impl.CodeOK, 0
}

// commentsOf are the comments of a tree in the order of its text.
func commentsOf(tree impl.Tree) []impl.Comment {
	var comments []impl.Comment
	rest := tree.Nodes
	var read func()
	read = func() {
		n := rest[0]
		rest = rest[1:]
		comments = append(comments, n.Lead...)
		for range n.Count {
			read()
		}
		comments = append(comments, n.Tail...)
	}
	read()
	return append(comments, tree.Tail...)
}

// checkParseRule holds ParseTree against the plain reading, and P8 on its own.
func checkParseRule(t *testing.T, source string) {
	t.Helper()
	wantTree, wantCode, wantAt := plainParse(source)
	tree, code, at := impl.ParseTree([]byte(source))
	if code != wantCode || at != wantAt || !sameTree(tree, wantTree) {
		t.Fatalf("ParseTree(%q): %.400s, code %d at %d; want %.400s, code %d at %d", source, showTree(tree), code, at, showTree(wantTree), wantCode, wantAt)
	}
	if code != impl.CodeOK {
		return
	}
	if !impl.ValidTree(tree) {
		t.Fatalf("ParseTree(%q): %.400s is not valid", source, showTree(tree))
	}
	var comments []impl.Comment
	tokens, _, _ := impl.Lex([]byte(source))
	for _, token := range tokens {
		if token.Kind >= impl.TokComment {
			comments = append(comments, plainComment(source[token.At:token.At+token.Len]))
		}
	}
	if got := commentsOf(tree); showComments(got) != showComments(comments) {
		t.Fatalf("ParseTree(%q): comments %s, want %s", source, showComments(got), showComments(comments))
	}
	if stripped := impl.StripComments(tree); !sameTree(stripped, bare(tree)) {
		t.Fatalf("StripComments(%.400s): %.400s", showTree(tree), showTree(stripped))
	}
}

func TestShortSources(t *testing.T) {
	rule := func(source string) { checkParseRule(t, source) }
	eachText([]string{"[", "]", "{", "}", ",", ":", "a ", "null ", "1 ", "'s'"}, 5, rule)
	eachText([]string{"[", "]", ",", "1 "}, 7, rule)
	eachText([]string{"{", "}", ",", ":", "a "}, 6, rule)
	eachText([]string{"[", "]", "{a:", "}", ","}, 6, rule)
	eachText([]string{"[", "]", "{", "}", "a:1 ", ",", "/*c*/"}, 5, rule)
}

// numbered replaces each # by a comment with a number, so that no two are alike.
func numbered(source string) string {
	var written strings.Builder
	for i, part := range strings.Split(source, "#") {
		switch {
		case i == 0:
		case i%3 == 0:
			written.WriteString("//" + strconv.Itoa(i) + "\n")
		default:
			written.WriteString("/*" + strconv.Itoa(i) + "*/")
		}
		written.WriteString(part)
	}
	return written.String()
}

// TestCommentsInEveryGap puts none, one or two comments into each gap between
// tokens.
func TestCommentsInEveryGap(t *testing.T) {
	sources := []string{
		"1", "[ ]", "[ 1 ]", "[ 1 , ]", "[ 1 , 2 ]", "[ 1 , 2 , ]", "{ }", "{ a : 1 }", "{ a : 1 , }", "{ 'a' : [ ] }", "[ { } , [ ] ]", "[ [ 1 , ] ]", "{ a : 1 , b : 2 }", "{ a : [ 1 ] , }", "[ { a : 1 } ]",
	}
	for _, source := range sources {
		var grow func(before string, rest []string)
		grow = func(before string, rest []string) {
			for _, gap := range []string{"", "#", "##"} {
				if len(rest) == 0 {
					checkParseRule(t, numbered(before+gap))
				} else {
					grow(before+gap+rest[0], rest[1:])
				}
			}
		}
		if tokens := strings.Split(source, " "); len(tokens) < 9 {
			grow("", tokens)
		}
		checkParseRule(t, numbered("#"+strings.ReplaceAll(source, " ", "###")+"##"))
	}
}

// grower writes a value and its tree at the same time.
type grower struct {
	pick  *picker
	text  strings.Builder
	count int
}

// gap writes blanks and comments, and answers the comments.
func (g *grower) gap() []impl.Comment {
	var comments []impl.Comment
	for range g.pick.below(4) {
		g.count++
		mark := strconv.Itoa(g.count)
		switch g.pick.below(9) {
		case 0:
			g.text.WriteString("//" + mark + []string{"\n", "\r", "\r\n", "\u2028", "\u2029"}[g.pick.below(5)])
			comments = append(comments, lineComment(mark))
		case 1:
			g.text.WriteString("/*" + mark + []string{"\n", "\r", "\r\n", "\u2028", "\u2029"}[g.pick.below(5)] + " é*/")
			comments = append(comments, blockComment(mark+"\n é"))
		default:
			g.text.WriteString([]string{" ", "\n", "\t", "\u00a0"}[g.pick.below(4)])
		}
	}
	return comments
}

func (g *grower) write(text string) {
	g.text.WriteString(text)
}

// items writes what stands between the marks of a list, and the last mark.
func (g *grower) items(kind, depth int) value {
	items, closing := []value{}, "]"
	if kind == impl.KindObject {
		closing = "}"
	}
	pending := g.gap()
	for more := g.pick.below(3) > 0; more; {
		var key []int
		if kind == impl.KindObject {
			key = g.key()
			pending = append(pending, g.gap()...)
			g.write(":")
			pending = append(pending, g.gap()...)
		}
		item := led(g.value(depth-1), pending...)
		if kind == impl.KindObject {
			item = keyOf(item, key...)
		}
		items = append(items, item)
		pending = g.gap()
		more = g.pick.below(3) > 0
		if more || g.pick.below(2) > 0 {
			g.write(",")
			pending = append(pending, g.gap()...)
		}
	}
	g.write(closing)
	return tailed(container(kind, items), pending...)
}

func (g *grower) key() []int {
	switch g.pick.below(4) {
	case 0:
		g.write("null")
		return unitsOf("null")
	case 1:
		g.write(`'\u00e9\''`)
		return []int{0xe9, '\''}
	}
	name := "k" + strconv.Itoa(g.pick.below(100))
	g.write(name)
	return unitsOf(name)
}

func (g *grower) value(depth int) value {
	kind := g.pick.below(9)
	switch {
	case kind < impl.KindNumber:
		g.write([]string{"null", "true", "false"}[kind])
		return word(kind)
	case kind == impl.KindNumber:
		form := []string{"1", "-0x1F", "Infinity", "NaN", "+.5e-3"}[g.pick.below(5)]
		g.write(form)
		return numeral(form)
	case kind == impl.KindString || depth == 0:
		g.write(`"a\n😀"`)
		return textOf('a', 10, 0xd83d, 0xde00)
	case kind%2 == 0:
		g.write("[")
		return g.items(impl.KindArray, depth)
	}
	g.write("{")
	return g.items(impl.KindObject, depth)
}

func TestGrownSources(t *testing.T) {
	pick := picker(1181783497276652981)
	for range 4000 {
		g := grower{pick: &pick}
		lead := g.gap()
		v := led(g.value(4), lead...)
		tree := whole(v, g.gap()...)
		source := g.text.String()
		if len(source) > impl.MaxInput {
			continue
		}
		checkParse(t, source, tree)
		if len(source) < 400 {
			checkParseRule(t, source)
			checkBroken(t, &pick, source)
		}
	}
}

// checkBroken takes pieces out of a text, puts others in, and cuts it off.
func checkBroken(t *testing.T, pick *picker, source string) {
	t.Helper()
	pieces := []string{"[", "]", "{", "}", ",", ":", " a ", " 1 ", "''", "/*c*/", " null", "{a:", "[[", ",,"}
	for range 5 {
		at := pick.below(len(source) + 1)
		behind := min(len(source), at+pick.below(3))
		checkParseRule(t, source[:at]+pieces[pick.below(len(pieces))]+source[behind:])
		checkParseRule(t, source[:at])
		checkParseRule(t, source[:at]+source[behind:])
	}
}
