package tests

import (
	"math"
	"slices"
	"strings"
	"testing"

	"loop.example/s02863/impl"
)

const (
	none   = impl.ChoiceNone
	flat   = impl.ChoiceFlat
	broken = impl.ChoiceBroken
)

// checkLayout holds Layout against a text and choices, and Render of the
// choices against the text (P4).
func checkLayout(t *testing.T, name string, d doc, width int, text string, choices ...int) {
	t.Helper()
	gotText, gotChoices, code := impl.Layout(d, width)
	if code != impl.CodeOK || string(gotText) != text || !slices.Equal(gotChoices, choices) {
		t.Errorf("%s, %s, width %d: %q %v %d, want %q %v", name, short(d), width, brief(gotText), brief(gotChoices), code, brief([]byte(text)), brief(choices))
	}
	again, code := impl.Render(d, choices)
	if code != impl.CodeOK || string(again) != text {
		t.Errorf("%s, %s: Render %v: %q %d, want %q", name, short(d), brief(choices), brief(again), code, brief([]byte(text)))
	}
}

// brief keeps messages about long lists readable.
func brief[E any](list []E) []E {
	return list[:min(60, len(list))]
}

func checkNoLayout(t *testing.T, name string, d doc, width int) {
	t.Helper()
	if text, choices, code := impl.Layout(d, width); code != impl.CodeBad || len(text) > 0 || len(choices) > 0 {
		t.Errorf("%s, %s, width %d: %q %v %d", name, short(d), width, brief(text), brief(choices), code)
	}
}

func checkNoRender(t *testing.T, name string, d doc, choices ...int) {
	t.Helper()
	if text, code := impl.Render(d, choices); code != impl.CodeBad || len(text) > 0 {
		t.Errorf("%s, %s, %v: %q %d", name, short(d), brief(choices), brief(text), code)
	}
}

func TestLayoutNumbers(t *testing.T) {
	if impl.MaxWidth != 65535 || none != 0 || flat != 1 || broken != 2 {
		t.Errorf("%d %d %d %d", impl.MaxWidth, none, flat, broken)
	}
}

func TestLayoutBadWidth(t *testing.T) {
	for _, width := range []int{-1, -2, math.MinInt, impl.MaxWidth + 1, impl.MaxWidth + 2, 1 << 32, math.MaxInt} {
		checkNoLayout(t, "width", textDoc("a"), width)
		checkNoLayout(t, "width", groupDoc(catDoc(textDoc("a"), line, textDoc("b"))), width)
		checkNoLayout(t, "width and document", nil, width)
	}
}

func TestLayoutBadDoc(t *testing.T) {
	bad := []doc{
		nil, {}, groupDoc(nil), catDoc(nothing, nil), slices.Concat(nothing, nothing),
		slices.Concat(groupDoc(nothing), groupDoc(nothing)),
		groupDoc(textDoc("a\nb")), groupDoc(textDoc("\xff")), leafDoc(10), leafDoc(-1),
		nestDoc(-1, groupDoc(nothing)), nestDoc(impl.MaxNest+1, groupDoc(nothing)),
		{{Kind: impl.DocNil}, {Kind: impl.DocGroup, N: 1}},
		{{Kind: impl.DocNil}, {Kind: impl.DocGroup, Text: []byte("x")}},
		altDoc(textDoc("a"), groupDoc(textDoc("\n"))),
	}
	for _, d := range bad {
		for _, width := range []int{0, 1, 80, impl.MaxWidth} {
			checkNoLayout(t, "not valid", d, width)
		}
		for _, choices := range [][]int{nil, {none}, {flat}, {broken}, {flat, flat}} {
			checkNoRender(t, "not valid", d, choices...)
		}
	}
}

func TestLayoutWithoutGroups(t *testing.T) {
	a, b := textDoc("a"), textDoc("é")
	cases := []struct {
		d    doc
		text string
	}{
		{nothing, ""},
		{textDoc(""), ""},
		{b, "é"},
		{line, "\n"}, {soft, "\n"}, {hard, "\n"}, {raw, "\n"},
		{catDoc(a, line, b, soft, a, hard, b, raw, a), "a\né\na\né\na"},
		{catDoc(a, line, line), "a\n\n"},
		{altDoc(a, b), "a"},
		{altDoc(line, b), "\n"},
		{altDoc(altDoc(a, b), b), "a"},
		{altDoc(a, hard), "a"},
	}
	for _, c := range cases {
		for _, width := range []int{0, 1, 2, 80, impl.MaxWidth} {
			checkLayout(t, "no group", c.d, width, c.text)
		}
	}
}

func TestLayoutIndents(t *testing.T) {
	a := textDoc("a")
	cases := []struct {
		d    doc
		text string
	}{
		{nestDoc(2, catDoc(a, line, a, soft, a, hard, a)), "a\n  a\n  a\n  a"},
		{nestDoc(2, catDoc(a, raw, a, line, a)), "a\na\n  a"},
		{nestDoc(2, raw), "\n"},
		{nestDoc(0, line), "\n"},
		{nestDoc(1, nestDoc(2, catDoc(line, a))), "\n   a"},
		{nestDoc(3, catDoc(hard, nestDoc(2, hard), hard)), "\n   \n     \n   "},
		{catDoc(nestDoc(3, hard), hard, nestDoc(1, hard), a), "\n   \n\n a"},
		{catDoc(line, nestDoc(4, a), line), "\na\n"},
		{nestDoc(2, altDoc(nestDoc(1, line), nestDoc(5, line))), "\n   "},
		{nestDoc(2, altDoc(line, nestDoc(5, line))), "\n  "},
		// Of the indent that a text is put behind, nothing is taken off again.
		{nestDoc(2, catDoc(line, line, line)), "\n  \n  \n  "},
	}
	for _, c := range cases {
		checkLayout(t, "indent", c.d, 80, c.text)
		checkLayout(t, "indent, in a broken group", groupDoc(catDoc(c.d, hard)), 80, c.text+"\n", broken)
	}
	// The indent is that of where the line stands, not of where its group began.
	d := catDoc(a, nestDoc(4, groupDoc(catDoc(a, nestDoc(1, catDoc(line, a)), line, a))))
	checkLayout(t, "nests around and in a group", d, 3, "aa\n     a\n    a", broken)
	checkLayout(t, "nests around and in a flat group", d, 6, "aa a a", flat)
	checkLayout(t, "most", nestDoc(impl.MaxNest, catDoc(hard, a, raw, a)), 0, "\n"+strings.Repeat(" ", impl.MaxNest)+"a\na")
}

func TestLayoutFits(t *testing.T) {
	a, b := textDoc("aa"), textDoc("bb")
	pair := groupDoc(catDoc(a, line, b))
	wide := groupDoc(catDoc(textDoc("é€"), line, textDoc("\U0001f600\u0301")))
	cases := []struct {
		name   string
		d      doc
		width  int // the least at which the group is flat
		flat   string
		broken string
	}{
		{"alone", pair, 5, "aa bb", "aa\nbb"},
		{"code points, not bytes", wide, 5, "é€ \U0001f600\u0301", "é€\n\U0001f600\u0301"},
		{"a soft line", groupDoc(catDoc(a, soft, b)), 4, "aabb", "aa\nbb"},
		{"a line alone", groupDoc(line), 1, " ", "\n"},
		{"two lines", groupDoc(catDoc(line, line)), 2, "  ", "\n\n"},
		{"behind a text", catDoc(textDoc("éé"), pair), 7, "ééaa bb", "ééaa\nbb"},
		{"behind a line", catDoc(textDoc("long before"), hard, pair), 5, "long before\naa bb", "long before\naa\nbb"},
		{"behind an indent", nestDoc(4, catDoc(hard, pair)), 9, "\n    aa bb", "\n    aa\n    bb"},
		{"behind a raw line", nestDoc(4, catDoc(hard, raw, pair)), 5, "\n    \naa bb", "\n    \naa\n    bb"},
		{"behind an indent and a text", nestDoc(4, catDoc(line, textDoc("é"), pair)), 10, "\n    éaa bb", "\n    éaa\n    bb"},
		{"a nest in it", groupDoc(catDoc(a, nestDoc(9, catDoc(line, b)))), 5, "aa bb", "aa\n         bb"},
		{"a nest around it", nestDoc(9, pair), 5, "aa bb", "aa\n         bb"},
		{"an alt's flat part", groupDoc(catDoc(a, altDoc(textDoc("a long one"), b), soft)), 4, "aabb", "aaa long one\n"},
		{"an alt that is flat alone", groupDoc(catDoc(a, altDoc(hard, b), soft)), 4, "aabb", "aa\n\n"},
		{"an empty text", groupDoc(catDoc(textDoc(""), nothing, line)), 1, " ", "\n"},
	}
	for _, c := range cases {
		checkLayout(t, c.name, c.d, c.width, c.flat, flat)
		checkLayout(t, c.name, c.d, impl.MaxWidth, c.flat, flat)
		checkLayout(t, c.name+", one less", c.d, c.width-1, c.broken, broken)
		checkLayout(t, c.name+", width 0", c.d, 0, c.broken, broken)
	}
}

// A group whose two layouts are one text has a choice all the same.
func TestLayoutChoiceWithoutLines(t *testing.T) {
	d := groupDoc(textDoc("ab"))
	checkLayout(t, "a text", d, 2, "ab", flat)
	checkLayout(t, "a text", d, 1, "ab", broken)
	checkLayout(t, "nothing", groupDoc(nothing), 0, "", flat)
	checkLayout(t, "a soft line", groupDoc(soft), 0, "", flat)
	checkLayout(t, "behind a text that is too long", catDoc(textDoc("abc"), groupDoc(soft)), 2, "abc\n", broken)
}

func TestLayoutAtMaxWidth(t *testing.T) {
	wide := strings.Repeat("é", 1000)
	long := wide + strings.Repeat("a", impl.MaxWidth-1-1000)
	for _, d := range []doc{
		groupDoc(catDoc(textDoc(long), line)),
		catDoc(groupDoc(catDoc(line, textDoc(long[2:]))), textDoc("x")),
		catDoc(textDoc(long), groupDoc(line)),
	} {
		_, choices, code := impl.Layout(d, impl.MaxWidth)
		if code != impl.CodeOK || !slices.Equal(choices, []int{flat}) {
			t.Errorf("MaxWidth code points: %v %d", choices, code)
		}
		_, choices, code = impl.Layout(catDoc(d, textDoc("y")), impl.MaxWidth)
		if code != impl.CodeOK || !slices.Equal(choices, []int{broken}) {
			t.Errorf("one more: %v %d", choices, code)
		}
	}
}

func TestLayoutWhatIsBehind(t *testing.T) {
	a, b, x, tail := textDoc("a"), textDoc("b"), textDoc("éx"), textDoc("a long tail")
	g := groupDoc(catDoc(a, line, b)) // "a b", three wide
	stiff := groupDoc(catDoc(x, hard, tail))
	cases := []struct {
		name   string
		behind doc
		r      int
		text   string // of what is behind, if all of it is broken
	}{
		{"nothing", nothing, 0, ""},
		{"a text", x, 2, "éx"},
		{"texts", catDoc(x, x, nothing, textDoc(""), x), 6, "éxéxéx"},
		{"texts to the right", catDoc(x, catDoc(x, catDoc(x, b))), 7, "éxéxéxb"},
		{"a line", catDoc(line, tail), 0, "\na long tail"},
		{"a text and a line", catDoc(x, line, tail), 2, "éx\na long tail"},
		{"a soft line", catDoc(x, soft, tail), 2, "éx\na long tail"},
		{"a hard line", catDoc(x, hard, tail), 2, "éx\na long tail"},
		{"a raw line", catDoc(x, raw, tail), 2, "éx\na long tail"},
		{"a line at the end", catDoc(x, line), 2, "éx\n"},
		{"a nest", nestDoc(9, catDoc(x, raw, tail)), 2, "éx\na long tail"},
		{"an alt", catDoc(altDoc(x, tail), b), 3, "éxb"},
		{"an alt with a line when broken", catDoc(x, altDoc(line, tail), tail), 2, "éx\na long tail"},
		{"an alt with a line when flat", catDoc(altDoc(x, line), b, hard), 3, "éxb\n"},
		{"an alt with a hard line when flat", catDoc(altDoc(x, hard), b, hard), 3, "éxb\n"},
	}
	for _, c := range cases {
		fits := 3 + c.r
		d := catDoc(g, c.behind)
		checkLayout(t, c.name, d, fits, "a b"+c.text, flat)
		checkLayout(t, c.name+", one less", d, fits-1, "a\nb"+c.text, broken)

		// The same, with the group at the end of what is left of it.
		d = catDoc(nestDoc(0, catDoc(x, nestDoc(0, g))), nestDoc(0, c.behind))
		checkLayout(t, c.name+", group inside", d, fits+2, "éxa b"+c.text, flat)
		checkLayout(t, c.name+", group inside, one less", d, fits+1, "éxa\nb"+c.text, broken)

		// In a group that cannot be flat, behind the end of which it goes on.
		d = catDoc(groupDoc(catDoc(hard, g)), c.behind)
		checkLayout(t, c.name+", behind a broken group's end", d, fits, "\na b"+c.text, flat, broken)
		checkLayout(t, c.name+", behind a broken group's end, one less", d, fits-1, "\na\nb"+c.text, broken, broken)

		// In a group that cannot be flat, its own line before the end.
		d = catDoc(groupDoc(catDoc(g, hard)), tail)
		checkLayout(t, "a line before the group's end", d, 3, "a b\na long tail", flat, broken)
		checkLayout(t, "a line before the group's end", d, 2, "a\nb\na long tail", broken, broken)

		// In an alt's left part.
		d = catDoc(altDoc(g, hard), c.behind)
		checkLayout(t, c.name+", group in an alt", d, fits, "a b"+c.text, flat)
		checkLayout(t, c.name+", group in an alt, one less", d, fits-1, "a\nb"+c.text, broken)
	}
	d := catDoc(g, x, stiff)
	checkLayout(t, "a group with a hard line", d, 7, "a béxéx\na long tail", flat, broken)
	checkLayout(t, "a group with a hard line", d, 6, "a\nbéxéx\na long tail", broken, broken)
}

// A group behind is taken as broken, though it will be flat.
func TestLayoutGroupsBehind(t *testing.T) {
	a, b := textDoc("aa"), textDoc("bb")
	g := groupDoc(catDoc(a, line, b))
	d := catDoc(g, g, g)
	checkLayout(t, "three groups", d, 15, "aa bbaa bbaa bb", flat, flat, flat)
	checkLayout(t, "three groups", d, 14, "aa bbaa bbaa\nbb", flat, flat, broken)
	checkLayout(t, "three groups", d, 12, "aa bbaa bbaa\nbb", flat, flat, broken)
	// The second's line is too long with the third; the third begins a new one.
	checkLayout(t, "three groups", d, 11, "aa bbaa\nbbaa bb", flat, broken, flat)
	checkLayout(t, "three groups", d, 7, "aa bbaa\nbbaa bb", flat, broken, flat)
	checkLayout(t, "three groups", d, 6, "aa\nbbaa\nbbaa\nbb", broken, broken, broken)

	texts := catDoc(g, groupDoc(textDoc("xx")), groupDoc(groupDoc(textDoc("y"))), line)
	checkLayout(t, "groups without lines", texts, 8, "aa bbxxy\n", flat, flat, flat, flat)
	checkLayout(t, "groups without lines", texts, 7, "aa\nbbxxy\n", broken, flat, flat, flat)
	checkLayout(t, "groups without lines", texts, 4, "aa\nbbxxy\n", broken, broken, broken, broken)

	// Behind a group that stays flat: only what is behind the whole of it.
	inside := catDoc(groupDoc(catDoc(g, b)), textDoc("z"), hard)
	checkLayout(t, "in a flat group", inside, 8, "aa bbbbz\n", flat, flat)
	// The outer group is too long by one, and so is the inner: one line.
	checkLayout(t, "in a broken group", inside, 7, "aa\nbbbbz\n", broken, broken)
	outer := catDoc(groupDoc(catDoc(g, line, b)), textDoc("z"))
	checkLayout(t, "in a broken group", outer, 8, "aa bb\nbbz", flat, broken)
	checkLayout(t, "in a broken group", outer, 5, "aa bb\nbbz", flat, broken)
	checkLayout(t, "in a broken group", outer, 4, "aa\nbb\nbbz", broken, broken)

	alts := catDoc(g, groupDoc(altDoc(textDoc("l"), textDoc("a long one"))))
	checkLayout(t, "an alt in a group behind", alts, 6, "aa bbl", flat, broken)
	checkLayout(t, "an alt in a group behind", alts, 5, "aa\nbbl", broken, broken)
	checkLayout(t, "an alt in a group behind", alts, 15, "aa bba long one", flat, flat)
}

func TestLayoutStiffGroups(t *testing.T) {
	a, b := textDoc("a"), textDoc("b")
	cases := []struct {
		d    doc
		text string
		want []int
	}{
		{groupDoc(hard), "\n", []int{broken}},
		{groupDoc(raw), "\n", []int{broken}},
		{groupDoc(catDoc(a, line, hard, line, b)), "a\n\n\nb", []int{broken}},
		{groupDoc(groupDoc(groupDoc(hard))), "\n", []int{broken, broken, broken}},
		{groupDoc(catDoc(groupDoc(line), a, raw)), " a\n", []int{flat, broken}},
		{groupDoc(catDoc(raw, groupDoc(line), a)), "\n a", []int{flat, broken}},
		{groupDoc(catDoc(groupDoc(catDoc(line, hard)), line)), "\n\n\n", []int{broken, broken}},
		{groupDoc(altDoc(a, hard)), "a", []int{broken}},
		{groupDoc(altDoc(a, groupDoc(raw))), "a", []int{none, broken}},
		{groupDoc(altDoc(hard, a)), "a", []int{flat}},
		{groupDoc(altDoc(groupDoc(hard), a)), "a", []int{none, flat}},
		{groupDoc(nestDoc(2, catDoc(hard, groupDoc(catDoc(a, line))))), "\n  a ", []int{flat, broken}},
	}
	for _, c := range cases {
		checkLayout(t, "cannot be flat", c.d, 80, c.text, c.want...)
		checkLayout(t, "cannot be flat", c.d, impl.MaxWidth, c.text, c.want...)
	}
}

func TestLayoutUnmetGroups(t *testing.T) {
	a, b := textDoc("a"), textDoc("b")
	ga, gb := groupDoc(catDoc(a, line)), groupDoc(catDoc(b, line))
	cases := []struct {
		name  string
		d     doc
		width int
		text  string
		want  []int
	}{
		{"broken mode", altDoc(ga, gb), 80, "a ", []int{flat, none}},
		{"broken mode", altDoc(ga, gb), 1, "a\n", []int{broken, none}},
		{"flat mode", groupDoc(altDoc(ga, gb)), 80, "b ", []int{none, flat, flat}},
		{"a group that is broken", groupDoc(altDoc(ga, gb)), 1, "a\n", []int{broken, none, broken}},
		{"a group that is broken, flat inside", groupDoc(altDoc(ga, catDoc(textDoc("long"), gb))), 2, "a ", []int{flat, none, broken}},
		{"alts in alts, broken", altDoc(altDoc(ga, gb), altDoc(gb, ga)), 80, "a ", []int{flat, none, none, none}},
		{"alts in alts, flat", groupDoc(altDoc(altDoc(ga, gb), altDoc(gb, ga))), 80, "a ", []int{none, none, none, flat, flat}},
		{"groups in groups, not met", altDoc(a, groupDoc(groupDoc(gb))), 80, "a", []int{none, none, none}},
		{"groups in groups, not met", groupDoc(altDoc(groupDoc(groupDoc(gb)), a)), 80, "a", []int{none, none, none, flat}},
		{"beside others", catDoc(ga, altDoc(b, gb), ga), 80, "a ba ", []int{flat, none, flat}},
		{"hard lines in it", catDoc(altDoc(a, groupDoc(hard)), gb), 80, "ab ", []int{none, flat}},
	}
	for _, c := range cases {
		checkLayout(t, c.name, c.d, c.width, c.text, c.want...)
	}
}

func TestLayoutGroupOrder(t *testing.T) {
	short, long := groupDoc(catDoc(textDoc("a"), line)), groupDoc(catDoc(textDoc("abc"), line))
	// By the place of the group's own element: an inner one before an outer
	// one, though the outer one is met first.
	stiff := groupDoc(catDoc(long, hard, short))
	checkLayout(t, "inside each other", stiff, 2, "abc\n\na ", broken, flat, broken)
	checkLayout(t, "beside each other", catDoc(short, long, short), 5, "a abc\na ", flat, broken, flat)
	checkLayout(t, "cats to the right", catDoc(long, catDoc(hard, catDoc(short, hard))), 2, "abc\n\na \n", broken, flat)
	checkLayout(t, "alts", catDoc(altDoc(short, long), long), 5, "a abc\n", flat, none, broken)
	checkLayout(t, "alts, in a group", groupDoc(catDoc(altDoc(short, long), short, hard)), 4, "a a \n", flat, none, flat, broken)
}

func TestLayoutFlatInFlat(t *testing.T) {
	a := textDoc("a")
	inner := groupDoc(catDoc(a, line, a))
	d := groupDoc(catDoc(inner, line, groupDoc(catDoc(inner, line, inner))))
	checkLayout(t, "all flat", d, 11, "a a a a a a", flat, flat, flat, flat, flat)
	checkLayout(t, "the outer broken", d, 10, "a a\na a a a", flat, flat, flat, flat, broken)
	checkLayout(t, "two broken", d, 6, "a a\na a\na a", flat, flat, flat, broken, broken)
	checkLayout(t, "all broken", d, 2, "a\na\na\na\na\na", broken, broken, broken, broken, broken)
	// What is flat in a group does not ask what is behind it.
	d = catDoc(groupDoc(catDoc(a, inner)), hard, textDoc("a long tail"))
	checkLayout(t, "a tail", d, 4, "aa a\na long tail", flat, flat)
}

func TestRenderReasons(t *testing.T) {
	a, b := textDoc("a"), textDoc("b")
	inner := groupDoc(catDoc(a, line, b))
	outer := groupDoc(catDoc(inner, line, a))
	good := []struct {
		d       doc
		choices []int
		text    string
	}{
		{a, nil, "a"},
		{inner, []int{flat}, "a b"},
		{inner, []int{broken}, "a\nb"},
		{outer, []int{flat, flat}, "a b a"},
		{outer, []int{flat, broken}, "a b\na"},
		{outer, []int{broken, broken}, "a\nb\na"},
		{nestDoc(3, outer), []int{broken, broken}, "a\n   b\n   a"},
		{groupDoc(hard), []int{broken}, "\n"},
		{groupDoc(groupDoc(raw)), []int{broken, broken}, "\n"},
		{altDoc(inner, inner), []int{flat, none}, "a b"},
		{altDoc(inner, inner), []int{broken, none}, "a\nb"},
		{groupDoc(altDoc(inner, b)), []int{none, flat}, "b"},
		{groupDoc(altDoc(inner, b)), []int{flat, broken}, "a b"},
		// No width bounds what is given.
		{groupDoc(textDoc(strings.Repeat("x", impl.MaxTexts))), []int{flat}, strings.Repeat("x", impl.MaxTexts)},
	}
	for _, c := range good {
		if text, code := impl.Render(c.d, c.choices); code != impl.CodeOK || string(text) != c.text {
			t.Errorf("%s, %v: %q %d, want %q", short(c.d), c.choices, brief(text), code, c.text)
		}
	}

	checkNoRender(t, "a choice and no group", a, none)
	checkNoRender(t, "a choice and no group", a, flat)
	checkNoRender(t, "no choice", inner)
	checkNoRender(t, "too few choices", outer, flat)
	checkNoRender(t, "too few choices", outer, broken)
	checkNoRender(t, "too many choices", inner, flat, flat)
	checkNoRender(t, "too many choices", inner, flat, none)
	checkNoRender(t, "too many choices", outer, flat, flat, none)

	checkNoRender(t, "met with none", inner, none)
	checkNoRender(t, "met with none in flat mode", outer, none, flat)
	checkNoRender(t, "met with none in broken mode", outer, none, broken)
	checkNoRender(t, "the outer one with none", outer, flat, none)
	checkNoRender(t, "the outer one with none", outer, none, none)
	checkNoRender(t, "a stiff one with none", groupDoc(hard), none)
	for _, other := range []int{-1, 3, 4, 257, math.MaxInt, math.MinInt} {
		checkNoRender(t, "no choice of the three", inner, other)
		checkNoRender(t, "no choice of the three, in flat mode", outer, other, flat)
		checkNoRender(t, "no choice of the three, in broken mode", outer, other, broken)
		checkNoRender(t, "no choice of the three, outside", outer, flat, other)
		checkNoRender(t, "no choice of the three, not met", altDoc(a, inner), other)
		checkNoRender(t, "no choice of the three, stiff", groupDoc(hard), other)
	}

	checkNoRender(t, "broken in flat mode", outer, broken, flat)
	checkNoRender(t, "broken in flat mode, without lines", groupDoc(groupDoc(a)), broken, flat)

	checkNoRender(t, "flat, of a hard line", groupDoc(hard), flat)
	checkNoRender(t, "flat, of a raw line", groupDoc(raw), flat)
	checkNoRender(t, "flat, of a hard line inside", groupDoc(catDoc(a, nestDoc(1, groupDoc(hard)))), broken, flat)
	checkNoRender(t, "flat, of a hard line inside", groupDoc(catDoc(a, nestDoc(1, groupDoc(hard)))), flat, broken)
	checkNoRender(t, "flat, of a hard line inside", groupDoc(catDoc(a, nestDoc(1, groupDoc(hard)))), flat, flat)
	checkNoRender(t, "flat, of an alt's raw line", groupDoc(altDoc(a, raw)), flat)
	checkNoRender(t, "flat, behind others", catDoc(inner, inner, groupDoc(hard)), flat, broken, flat)

	checkNoRender(t, "not met in broken mode, flat", altDoc(a, inner), flat)
	checkNoRender(t, "not met in broken mode, broken", altDoc(a, inner), broken)
	checkNoRender(t, "not met in flat mode, flat", groupDoc(altDoc(inner, a)), flat, flat)
	checkNoRender(t, "not met in flat mode, broken", groupDoc(altDoc(inner, a)), broken, flat)
	checkNoRender(t, "not met in a broken group", groupDoc(altDoc(a, inner)), flat, broken)
	checkNoRender(t, "not met, beside one that is", altDoc(inner, inner), flat, flat)
}
