package tests

import (
	"strings"
	"testing"

	"loop.example/s02863/impl"
)

func checkParse(t *testing.T, source string, want impl.Tree) {
	t.Helper()
	tree, code, at := impl.ParseTree([]byte(source))
	if code != impl.CodeOK || at != 0 || !sameTree(tree, want) {
		t.Errorf("ParseTree(%.80q): %.200s, code %d at %d; want %.200s", source, showTree(tree), code, at, showTree(want))
	}
	if !impl.ValidTree(tree) {
		t.Errorf("ParseTree(%.80q): %.200s is not valid", source, showTree(tree))
	}
}

func checkNoParse(t *testing.T, source string, wantCode, wantAt int) {
	t.Helper()
	tree, code, at := impl.ParseTree([]byte(source))
	if code != wantCode || at != wantAt || !sameTree(tree, impl.Tree{}) {
		t.Errorf("ParseTree(%.80q): %.200s, code %d at %d; want code %d at %d", source, showTree(tree), code, at, wantCode, wantAt)
	}
}

// checkOutside asks for a fault of the grammar at the end of what stands before.
func checkOutside(t *testing.T, before, behind string) {
	t.Helper()
	checkNoParse(t, before+behind, impl.CodeSyntax, len(before))
}

var (
	null = word(impl.KindNull)
	yes  = word(impl.KindTrue)
	no   = word(impl.KindFalse)
)

func TestParseWords(t *testing.T) {
	words := map[string]value{"null": null, "true": yes, "false": no, "Infinity": numeral("Infinity"), "NaN": numeral("NaN")}
	for form, v := range words {
		checkParse(t, form, whole(v))
		checkParse(t, "\ufeff "+form+"\r\n", whole(v))
		checkParse(t, "["+form+"]", whole(array(v)))
		checkParse(t, "{a:"+form+"}", whole(object(member("a", v))))
		// As a key it is a name like any other.
		checkParse(t, "{"+form+":"+form+"}", whole(object(member(form, v))))
		checkParse(t, "{ "+form+" : 1, }", whole(object(member(form, numeral("1")))))
	}
	for _, other := range []string{"foo", "nul", "nulll", "Null", "NULL", "True", "False", "tru", "undefined", "infinity", "nan", "Nan", "NAN", "Infinit", "Infinityy", "_", "$", "null1", "null_", "a1", "e1", "x"} {
		checkOutside(t, "", other)
		checkOutside(t, " /* */ ", other+" ")
		checkOutside(t, "[", other+"]")
		checkOutside(t, "[1,", other+",]")
		checkOutside(t, "{a:", other+"}")
		checkOutside(t, "{Infinity:", other+"}")
		checkParse(t, "{"+other+":1}", whole(object(member(other, numeral("1")))))
	}
}

func TestParseNumbers(t *testing.T) {
	for _, form := range unsigned {
		for _, sign := range []string{"", "+", "-"} {
			checkParse(t, sign+form, whole(numeral(sign+form)))
			checkParse(t, "["+sign+form+","+sign+form+" ]", whole(array(numeral(sign+form), numeral(sign+form))))
			checkParse(t, "{a:"+sign+form+"}", whole(object(member("a", numeral(sign+form)))))
			if sign != "" || form[0] != 'I' && form[0] != 'N' {
				checkOutside(t, "{", sign+form+":1}")
				checkOutside(t, "{a:1,", sign+form+":1}")
			}
		}
	}
}

func TestParseStrings(t *testing.T) {
	cases := []struct {
		form  string
		units []int
	}{
		{`''`, nil}, {`""`, nil}, {`'a'`, []int{'a'}}, {`"a b"`, []int{'a', ' ', 'b'}}, {`'null'`, []int{'n', 'u', 'l', 'l'}}, {`'1'`, []int{'1'}},
		{`"é😀"`, []int{0xe9, 0xd83d, 0xde00}}, {`'\ud83d'`, []int{0xd83d}}, {`'\x00\0'`, []int{0, 0}}, {`'\n\''`, []int{10, '\''}},
		{"'a\\\r\nb'", []int{'a', 'b'}}, {"'\u2028'", []int{0x2028}}, {`'//'`, []int{'/', '/'}}, {`"/*"`, []int{'/', '*'}}, {`']}'`, []int{']', '}'}},
	}
	for _, c := range cases {
		checkParse(t, c.form, whole(textOf(c.units...)))
		checkParse(t, "["+c.form+","+c.form+",]", whole(array(textOf(c.units...), textOf(c.units...))))
		checkParse(t, "{"+c.form+":"+c.form+"}", whole(object(keyOf(textOf(c.units...), c.units...))))
		checkParse(t, "{"+c.form+":1,"+c.form+":2}", whole(object(keyOf(numeral("1"), c.units...), keyOf(numeral("2"), c.units...))))
	}
}

func TestParseLists(t *testing.T) {
	one, two, three := numeral("1"), numeral("2"), numeral("3")
	checkParse(t, "[]", whole(array()))
	checkParse(t, "[1]", whole(array(one)))
	checkParse(t, "[1,]", whole(array(one)))
	checkParse(t, "[1,2]", whole(array(one, two)))
	checkParse(t, "[ 1\n,\t2 , ]", whole(array(one, two)))
	checkParse(t, "[1,2,3,]", whole(array(one, two, three)))
	checkParse(t, "[[]]", whole(array(array())))
	checkParse(t, "[[],]", whole(array(array())))
	checkParse(t, "[[],[1,],{},[[2],3]]", whole(array(array(), array(one), object(), array(array(two), three))))
	checkParse(t, "{}", whole(object()))
	checkParse(t, "{a:1}", whole(object(member("a", one))))
	checkParse(t, "{a:1,}", whole(object(member("a", one))))
	checkParse(t, "{\na\v:\f1\r,b\u00a0:2}", whole(object(member("a", one), member("b", two))))
	checkParse(t, "{$_9:1,'b c':2,\"\":3,}", whole(object(member("$_9", one), member("b c", two), member("", three))))
	checkParse(t, "{a:1,a:2,a:1}", whole(object(member("a", one), member("a", two), member("a", one))))
	checkParse(t, "{a:{}}", whole(object(member("a", object()))))
	checkParse(t, "{a:{b:{c:[{d:1}]},},e:[]}", whole(object(
		member("a", object(member("b", object(member("c", array(object(member("d", one)))))))),
		member("e", array()))))
	checkParse(t, "[{a:[1,{b:2}],c:[]},3]", whole(array(object(member("a", array(one, object(member("b", two)))), member("c", array())), three)))
	checkParse(t, "{__proto__:null,constructor:true}", whole(object(member("__proto__", null), member("constructor", yes))))
}

func TestParseFaults(t *testing.T) {
	cases := []struct{ before, behind string }{
		// No value.
		{"", "]"}, {"", "}"}, {"", ","}, {"", ":"}, {" ", ", 1"}, {"", ":1"}, {"//\n", "]["},
		// Something behind the value.
		{"1 ", "2"}, {"null ", "null"}, {"''", "''"}, {"[]", "[]"}, {"[]", "]"}, {"{}", "}"}, {"{}", ","}, {"1", ","}, {"1", ":2"}, {"'a'", ":1"}, {"[1] // \n ", "]"},
		// Arrays.
		{"[", ",]"}, {"[", ",1]"}, {"[1,", ",]"}, {"[1,", ",2]"}, {"[1", ":2]"}, {"[", ":1]"}, {"[1 ", "2]"}, {"[[] ", "[]]"}, {"[", "}"}, {"[1", "}"}, {"[1,", "}"}, {"['a'", ":1]"}, {"[1,2,", ", ]"}, {"[[1]", ":"}, {"[[1", "}]"}, {"[1,]", "]"},
		// Objects.
		{"{", ",}"}, {"{", ",a:1}"}, {"{", ":1}"}, {"{", "1:2}"}, {"{", "-Infinity:2}"}, {"{", "[]:1}"}, {"{", "{}:1}"}, {"{", "]"}, {"{a", "}"}, {"{a", ",b:1}"}, {"{a ", "1}"}, {"{a ", "b:1}"}, {"{a ", "'b':1}"}, {"{'a'", "}"}, {"{'a' ", "1}"},
		{"{a:", "}"}, {"{a:", ",}"}, {"{a:", ":1}"}, {"{a:", "]"}, {"{a:", "b}"}, {"{a:1", ":2}"}, {"{a:1 ", "b:2}"}, {"{a:1 ", "2}"}, {"{a:1", "]"}, {"{a:1,", ",}"}, {"{a:1,", ",b:2}"}, {"{a:1,", "1:2}"}, {"{a:1,", "]"}, {"{a:1,", ":2}"}, {"{a:1,b", "}"}, {"{a:1,b:", "}"}, {"{a:1,}", "}"},
		{"{a:{b", "}}"}, {"{a:[", ":]}"}, {"{a:[1", "}]"}, {"[{a:1", "]}"}, {"{true:false,null:", "nul}"},
		// The first of several.
		{"[", ",,"}, {"{", "1:,]"}, {"[1 ", "2 3}"}, {"{a:", "b c d"}, {"", "] }"},
	}
	for _, c := range cases {
		checkOutside(t, c.before, c.behind)
		checkOutside(t, " \u2028"+c.before, c.behind+" ")
		checkOutside(t, c.before+"/*[*/", c.behind)
		checkOutside(t, c.before+"\n//]\n /**/", c.behind)
		checkOutside(t, "//é\n"+c.before, c.behind+"/*c*/")
	}
}

func TestParseUnfinished(t *testing.T) {
	for _, source := range []string{"", " ", "\n\n", "\ufeff", "// c", "// c\n", "/* c */", "/**//**/ //", "\u00a0// é"} {
		checkOutside(t, source, "")
	}
	wholes := []string{
		"[ ]", "{ }", "[ 1 ]", "[ 1 , ]", "[ 1 , 2 , ]", "[ [ ] , { } ]", "{ a : 1 }", "{ a : 1 , }", "{ 'a' : 1 , b : [ ] , }",
		"{ a : { b : [ null , Infinity , 'c' , { } , ] , null : NaN } , d : -1 }", "[ [ [ { a : [ 1 ] } ] ] ]", "[ { a : { } , b : [ ] } , 1 ]",
	}
	for _, source := range wholes {
		if _, code, _ := impl.ParseTree([]byte(source)); code != impl.CodeOK {
			t.Errorf("ParseTree(%q): code %d", source, code)
		}
		tokens := strings.Split(source, " ")
		for cut := range tokens {
			for _, behind := range []string{"", " ", "\n\t", "// rest", "/* é */", " //a\n //b\n"} {
				checkOutside(t, strings.Join(tokens[:cut], " ")+behind, "")
			}
		}
	}
}

func TestParseDepth(t *testing.T) {
	pairs := []struct {
		opens, closes string
		lists         int
	}{
		{"[", "]", 1}, {"{a:", "}", 1}, {"[ ", ",]", 1}, {"{'':", "//\n}", 1}, {"[{a:", "}]", 2}, {"[1,", ",1]", 1}, {"{a:1,b:", ",c:1}", 1}, {"[{a:[{'':", "},],},]", 4}, {"/*[*/[{'[':", "}/*]*/]", 2},
	}
	for _, pair := range pairs {
		full := impl.MaxDepth / pair.lists
		deep := func(n int, inner string) string {
			return strings.Repeat(pair.opens, n) + inner + strings.Repeat(pair.closes, n)
		}
		for _, inner := range []string{"1", "null", "'['", "/*[*/1"} {
			tree, code, at := impl.ParseTree([]byte(deep(full, inner)))
			if code != impl.CodeOK || at != 0 || !impl.ValidTree(tree) {
				t.Errorf("%q, MaxDepth: code %d at %d", pair.opens, code, at)
			}
			checkNoParse(t, deep(full, "[["+inner+"]]"), impl.CodeLimit, len(pair.opens)*full)
		}
		checkNoParse(t, deep(full, "[]"), impl.CodeLimit, len(pair.opens)*full)
		checkNoParse(t, deep(full, " {} "), impl.CodeLimit, len(pair.opens)*full+1)
	}
	most := strings.Repeat("[", impl.MaxDepth)
	back := strings.Repeat("]", impl.MaxDepth)
	checkParse(t, most+back, whole(arrays(impl.MaxDepth)))
	checkParse(t, "["+most[1:]+back[1:]+","+most[1:]+back[1:]+"]", whole(array(arrays(impl.MaxDepth-1), arrays(impl.MaxDepth-1))))
	// The first that is one too many, not the deepest and not the last.
	checkNoParse(t, "["+most[1:]+back[1:]+","+most+back+","+most+back+"]", impl.CodeLimit, 3*impl.MaxDepth-1)
	checkNoParse(t, most+"1,[],[[[]]],{}"+back, impl.CodeLimit, impl.MaxDepth+2)
	checkNoParse(t, "//[[[\n"+most+"/*[*/{}"+back, impl.CodeLimit, 6+impl.MaxDepth+5)
	checkNoParse(t, strings.Repeat("[", impl.MaxInput/2)+strings.Repeat("]", impl.MaxInput/2), impl.CodeLimit, impl.MaxDepth)
	checkNoParse(t, strings.Repeat("{a:", impl.MaxInput/4-1)+"1"+strings.Repeat("}", impl.MaxInput/4-1), impl.CodeLimit, 3*impl.MaxDepth)
}

// arrays has so many arrays inside each other.
func arrays(depth int) value {
	v := array()
	for range depth - 1 {
		v = array(v)
	}
	return v
}

// TestParseOrder has texts with more than one fault.
func TestParseOrder(t *testing.T) {
	deep := strings.Repeat("[", impl.MaxDepth+1)
	back := strings.Repeat("]", impl.MaxDepth+1)
	long := strings.Repeat(" ", impl.MaxInput)
	checkNoParse(t, long+"]", impl.CodeLimit, impl.MaxInput)
	checkNoParse(t, "]"+long, impl.CodeLimit, impl.MaxInput)
	checkNoParse(t, deep+back+long, impl.CodeLimit, impl.MaxInput)
	checkNoParse(t, "\xff"+long, impl.CodeLimit, impl.MaxInput)
	checkNoParse(t, "] @\xff", impl.CodeText, 3)
	checkNoParse(t, deep+back+"\xff", impl.CodeText, 2*impl.MaxDepth+2)
	checkNoParse(t, "[,\xc3]", impl.CodeText, 2)
	checkNoParse(t, "] @", impl.CodeSyntax, 2)
	checkNoParse(t, "[,] 'a", impl.CodeSyntax, 4)
	checkNoParse(t, "[1 2] /*", impl.CodeSyntax, 6)
	checkNoParse(t, deep+back+" @", impl.CodeSyntax, 2*impl.MaxDepth+3)
	checkNoParse(t, deep+back+" 01", impl.CodeSyntax, 2*impl.MaxDepth+3)
	// The grammar goes before the depth, wherever its fault stands.
	checkNoParse(t, deep, impl.CodeSyntax, impl.MaxDepth+1)
	checkNoParse(t, deep+back[1:], impl.CodeSyntax, 2*impl.MaxDepth+1)
	checkNoParse(t, deep+back+"]", impl.CodeSyntax, 2*impl.MaxDepth+2)
	checkNoParse(t, deep+"}", impl.CodeSyntax, impl.MaxDepth+1)
	checkNoParse(t, deep+","+back, impl.CodeSyntax, impl.MaxDepth+1)
	checkNoParse(t, "["+deep+back+",,]", impl.CodeSyntax, 2*impl.MaxDepth+4)
	checkNoParse(t, deep+deep+back+"a", impl.CodeSyntax, 3*impl.MaxDepth+3)
	checkNoParse(t, strings.Repeat("[", impl.MaxInput), impl.CodeSyntax, impl.MaxInput)
	checkNoParse(t, strings.Repeat("{a:", impl.MaxInput/3), impl.CodeSyntax, impl.MaxInput-1)
	checkNoParse(t, strings.Repeat("[", impl.MaxInput-1)+"}", impl.CodeSyntax, impl.MaxInput-1)
	checkNoParse(t, strings.Repeat("]", impl.MaxInput), impl.CodeSyntax, 0)
	checkNoParse(t, "[,"+deep+back+"]", impl.CodeSyntax, 1)
}

func TestParseTextErrors(t *testing.T) {
	for _, c := range badTexts {
		checkNoParse(t, c.text, impl.CodeText, c.at)
		checkNoParse(t, "[1,"+c.text, impl.CodeText, 3+c.at)
		checkNoParse(t, "'"+c.text+"'", impl.CodeText, 1+c.at)
		checkNoParse(t, "//"+c.text+"\n1", impl.CodeText, 2+c.at)
	}
	for _, fault := range lexFaults {
		if impl.TextWidth([]byte(fault)) >= 0 && fault != "//" {
			checkNoParse(t, "[1, "+fault, impl.CodeSyntax, 4)
			checkNoParse(t, "[1 1 "+fault, impl.CodeSyntax, 5)
		}
	}
}

func TestParseLimit(t *testing.T) {
	full := strings.Repeat(" ", impl.MaxInput)
	checkParse(t, full[1:]+"1", whole(numeral("1")))
	checkParse(t, "1"+full[1:], whole(numeral("1")))
	checkNoParse(t, full+"1", impl.CodeLimit, impl.MaxInput)
	checkNoParse(t, full, impl.CodeSyntax, impl.MaxInput)
	checkNoParse(t, full[1:]+"]", impl.CodeSyntax, impl.MaxInput-1)

	items := (impl.MaxInput - 2) / 2
	list := "[" + strings.Repeat("1,", items) + "]"
	tree, code, _ := impl.ParseTree([]byte(list))
	if code != impl.CodeOK || len(tree.Nodes) != items+1 || tree.Nodes[0].Count != items || !impl.ValidTree(tree) {
		t.Errorf("a long list: code %d, %d nodes", code, len(tree.Nodes))
	}
	digits := strings.Repeat("7", impl.MaxInput)
	checkParse(t, digits, whole(numeral(digits)))
	checkParse(t, "'"+digits[2:]+"'", whole(textOf(unitsOf(digits[2:])...)))
	checkParse(t, "//"+digits[4:]+"\n1", whole(led(numeral("1"), lineComment(digits[4:]))))
	checkParse(t, "{k"+digits[5:]+":1}", whole(object(member("k"+digits[5:], numeral("1")))))
	comments := strings.Repeat("/**/", impl.MaxInput/4-1)
	tree, code, _ = impl.ParseTree([]byte(comments + "null"))
	if code != impl.CodeOK || len(tree.Nodes) != 1 || len(tree.Nodes[0].Lead) != impl.MaxInput/4-1 || !impl.ValidTree(tree) {
		t.Errorf("many comments: code %d", code)
	}
}
