package tests

import (
	"bytes"
	"math"
	"slices"
	"strings"
	"testing"
	"unicode/utf8"

	"loop.example/s02863/impl"
)

type doc = []impl.Piece

func leafDoc(kind int) doc {
	return doc{{Kind: kind}}
}

func textDoc(text string) doc {
	return doc{{Kind: impl.DocText, Text: []byte(text)}}
}

func nestDoc(n int, inner doc) doc {
	return append(slices.Clone(inner), impl.Piece{Kind: impl.DocNest, N: n})
}

func groupDoc(inner doc) doc {
	return append(slices.Clone(inner), impl.Piece{Kind: impl.DocGroup})
}

func altDoc(broken, flat doc) doc {
	return append(slices.Concat(broken, flat), impl.Piece{Kind: impl.DocFlatAlt})
}

func catDoc(first doc, others ...doc) doc {
	whole := slices.Clone(first)
	for _, d := range others {
		whole = append(append(whole, d...), impl.Piece{Kind: impl.DocCat})
	}
	return whole
}

var (
	nothing = leafDoc(impl.DocNil)
	line    = leafDoc(impl.DocLine)
	soft    = leafDoc(impl.DocSoft)
	hard    = leafDoc(impl.DocHard)
	raw     = leafDoc(impl.DocRaw)
)

// told is what a document comes to: whether it is valid, its flat text if
// there is one, and the width of its first line.
type told struct {
	valid bool
	flat  string
	can   bool
	lead  int
}

var notValid = told{lead: -1}

func tell(d doc) told {
	flat, can := impl.FlatText(d)
	return told{impl.ValidDoc(d), string(flat), can, impl.LeadWidth(d)}
}

// short shows a document in a message.
func short(d doc) string {
	var b strings.Builder
	for i, p := range d {
		if i == 20 {
			return b.String() + " .."
		}
		if p.Kind < 0 || p.Kind > 9 {
			b.WriteString("?")
			continue
		}
		b.WriteByte("0tlshrcngf"[p.Kind])
		if len(p.Text) > 0 {
			b.WriteString("'" + string(p.Text[:min(9, len(p.Text))]) + "'")
		}
		if p.N != 0 {
			b.WriteString("*")
		}
	}
	return b.String()
}

func checkDoc(t *testing.T, name string, d doc, want told) {
	t.Helper()
	if got := tell(d); got != want {
		t.Errorf("%s, %s: %+v, want %+v", name, short(d), cut(got), cut(want))
	}
}

// cut keeps messages about long texts readable.
func cut(x told) told {
	x.flat = x.flat[:min(40, len(x.flat))]
	return x
}

func checkValid(t *testing.T, name string, d doc, want bool) {
	t.Helper()
	if got := impl.ValidDoc(d); got != want {
		t.Errorf("%s, %s: %v, want %v", name, short(d), got, want)
	}
	if !want {
		checkDoc(t, name, d, notValid)
	}
}

func TestDocNumbers(t *testing.T) {
	kinds := []int{impl.DocNil, impl.DocText, impl.DocLine, impl.DocSoft, impl.DocHard, impl.DocRaw, impl.DocCat, impl.DocNest, impl.DocGroup, impl.DocFlatAlt}
	if !slices.Equal(kinds, []int{0, 1, 2, 3, 4, 5, 6, 7, 8, 9}) {
		t.Errorf("kinds: %v", kinds)
	}
	if impl.MaxPieces != 40000 || impl.MaxNest != 4000 {
		t.Errorf("limits: %d, %d", impl.MaxPieces, impl.MaxNest)
	}
}

func TestDocOfEachKind(t *testing.T) {
	for kind := impl.DocNil; kind <= impl.DocFlatAlt; kind++ {
		operands := 0
		switch kind {
		case impl.DocNest, impl.DocGroup:
			operands = 1
		case impl.DocCat, impl.DocFlatAlt:
			operands = 2
		}
		for given := range 4 {
			d := slices.Concat(slices.Repeat(nothing, given), leafDoc(kind))
			checkValid(t, "operands given", d, given == operands)
		}
		d := slices.Concat(slices.Repeat(nothing, operands), leafDoc(kind))
		last := len(d) - 1
		d[last].Text = []byte("x")
		checkValid(t, "with a Text", d, kind == impl.DocText)
		d[last].Text = []byte{}
		checkValid(t, "with an empty Text", d, true)
		for _, n := range []int{1, -1, impl.MaxNest, math.MaxInt, math.MinInt} {
			d[last].N = n
			checkValid(t, "with an N", d, kind == impl.DocNest && n >= 0 && n <= impl.MaxNest)
		}
		if operands > 0 {
			d = slices.Concat(leafDoc(kind), slices.Repeat(nothing, operands))
			checkValid(t, "operands behind", d, false)
		}
	}
}

func TestDocOfNoKind(t *testing.T) {
	for _, kind := range []int{-1, -2, 10, 11, 16, 256, 265, math.MaxInt, math.MinInt} {
		checkValid(t, "alone", leafDoc(kind), false)
		checkValid(t, "behind a document", catDoc(nothing, leafDoc(kind)), false)
		checkValid(t, "as an operator", append(textDoc("a"), impl.Piece{Kind: kind}), false)
		checkValid(t, "in the part that is not used", altDoc(leafDoc(kind), textDoc("a")), false)
	}
}

func TestDocOperands(t *testing.T) {
	cat, group, alt, nest := leafDoc(impl.DocCat), leafDoc(impl.DocGroup), leafDoc(impl.DocFlatAlt), leafDoc(impl.DocNest)
	bad := []doc{
		nil,
		{},
		cat, group, alt, nest,
		slices.Concat(nothing, cat),
		slices.Concat(nothing, alt),
		slices.Concat(nothing, nothing),
		slices.Concat(nothing, group, nothing),
		slices.Concat(group, nothing),
		slices.Concat(nest, nothing),
		slices.Concat(nothing, cat, nothing),
		slices.Concat(cat, nothing, nothing),
		slices.Concat(nothing, alt, nothing),
		slices.Concat(nothing, nothing, cat, cat),
		slices.Concat(nothing, nothing, cat, cat, nothing),
		slices.Concat(nothing, nothing, nothing, cat),
		slices.Concat(nothing, nothing, alt, group, nest, nothing),
		slices.Concat(group, nothing, nothing, cat),
	}
	for _, d := range bad {
		checkValid(t, "operands", d, false)
	}
	good := []doc{
		slices.Concat(nothing, nothing, nothing, cat, cat),
		slices.Concat(nothing, nothing, cat, nothing, cat),
		slices.Concat(nothing, group, nothing, nest, alt),
		slices.Concat(nothing, nothing, alt, nothing, nothing, alt, cat, group),
	}
	for _, d := range good {
		checkValid(t, "operands", d, true)
	}
}

func TestDocTexts(t *testing.T) {
	for _, x := range goodTexts {
		without := strings.ReplaceAll(x.text, "\n", "")
		checkDoc(t, "UTF-8", textDoc(without), told{true, without, true, utf8.RuneCountInString(without)})
	}
	for _, x := range badTexts {
		checkValid(t, x.name, textDoc(x.text), false)
		checkValid(t, x.name+", not used when flat", altDoc(textDoc(x.text), nothing), false)
		checkValid(t, x.name+", not used when broken", altDoc(nothing, textDoc(x.text)), false)
	}
	for _, x := range []string{"\n", "a\n", "\na", "a\nb", "\r\n", "é\né"} {
		checkValid(t, "a text with LF", textDoc(x), false)
		checkValid(t, "LF behind a line", catDoc(textDoc("a"), hard, textDoc(x)), false)
	}
	for _, x := range []string{"\r", "\t", "\v", "\f", "\u0085", "\u2028", "\u2029", "\x00", "\u010a"} {
		checkDoc(t, "no LF", textDoc(x), told{true, x, true, 1})
	}
	// Two halves of one form are not UTF-8, though their texts together are.
	checkValid(t, "halves", catDoc(textDoc("\xc3"), textDoc("\xa9")), false)
}

func TestDocPieceLimit(t *testing.T) {
	d := slices.Clone(nothing)
	for len(d) < impl.MaxPieces {
		d = append(d, impl.Piece{Kind: impl.DocGroup})
	}
	checkDoc(t, "MaxPieces elements", d, told{true, "", true, 0})
	checkValid(t, "one more", append(d, impl.Piece{Kind: impl.DocGroup}), false)

	// An odd number of elements, as cats of leaves have.
	whole := catDoc(nothing, slices.Repeat([]doc{textDoc("é")}, impl.MaxPieces/2-1)...)
	checkDoc(t, "one less", whole, told{true, strings.Repeat("é", impl.MaxPieces/2-1), true, impl.MaxPieces/2 - 1})
	checkDoc(t, "MaxPieces", groupDoc(whole), told{true, strings.Repeat("é", impl.MaxPieces/2-1), true, impl.MaxPieces/2 - 1})
	checkValid(t, "one more", groupDoc(groupDoc(whole)), false)
}

func TestDocTextLimit(t *testing.T) {
	full := strings.Repeat("a", impl.MaxTexts)
	checkDoc(t, "one text", textDoc(full), told{true, full, true, impl.MaxTexts})
	checkValid(t, "one byte more", textDoc(full+"a"), false)
	checkValid(t, "one byte more, in another text", catDoc(textDoc(full), textDoc("a")), false)
	checkValid(t, "one byte more, not used when flat", altDoc(textDoc("a"), textDoc(full)), false)
	checkValid(t, "one byte more, not used when broken", altDoc(textDoc(full), textDoc("a")), false)
	checkDoc(t, "empty texts beside it", catDoc(textDoc(""), textDoc(full), textDoc("")), told{true, full, true, impl.MaxTexts})

	// Bytes are counted, not code points.
	wide := strings.Repeat("€", impl.MaxTexts/3)
	checkDoc(t, "three bytes a point", catDoc(textDoc(wide), textDoc("a")), told{true, wide + "a", true, impl.MaxTexts/3 + 1})
	checkValid(t, "three bytes a point, one more", catDoc(textDoc(wide), textDoc("é")), false)

	many := slices.Repeat([]doc{textDoc("abcdefghij")}, impl.MaxTexts/10)
	checkDoc(t, "many texts", catDoc(nothing, many...), told{true, strings.Repeat("abcdefghij", impl.MaxTexts/10), true, impl.MaxTexts})
	checkValid(t, "many texts, one byte more", catDoc(textDoc("x"), many...), false)

	// Every element may hold the same long text: it must not be read each time.
	long := textDoc(strings.Repeat("a", 8<<20))
	checkValid(t, "the same text again and again", slices.Repeat(long, impl.MaxPieces), false)
}

func TestDocNestLimit(t *testing.T) {
	const most = impl.MaxNest
	good := []doc{
		nestDoc(0, nothing),
		nestDoc(most, nothing),
		nestDoc(1, nestDoc(most-1, nothing)),
		nestDoc(most-1, nestDoc(1, nothing)),
		nestDoc(most, nestDoc(0, nestDoc(0, line))),
		nestDoc(1, groupDoc(nestDoc(2, altDoc(nestDoc(most-3, hard), nestDoc(most-3, raw))))),
		catDoc(nestDoc(most, nothing), nestDoc(most, nothing)),
		catDoc(nestDoc(most, nothing), nestDoc(most, nothing), nestDoc(most, line)),
		altDoc(nestDoc(most, nothing), nestDoc(most, nothing)),
		nestDoc(1, catDoc(nestDoc(most-1, nothing), nestDoc(most-1, nothing))),
		nestDoc(most-1, catDoc(nestDoc(1, nothing), nestDoc(0, nothing), nestDoc(1, nothing))),
	}
	for _, d := range good {
		checkValid(t, "nests", d, true)
	}
	bad := []doc{
		nestDoc(-1, nothing),
		nestDoc(math.MinInt, nothing),
		nestDoc(most+1, nothing),
		nestDoc(math.MaxInt, nothing),
		nestDoc(most+1, nestDoc(-1, nothing)),
		nestDoc(-1, nestDoc(most+1, nothing)),
		nestDoc(1, nestDoc(most, nothing)),
		nestDoc(most, nestDoc(1, nothing)),
		nestDoc(math.MaxInt, nestDoc(1, nothing)),
		nestDoc(math.MaxInt, nestDoc(most, nothing)),
		nestDoc(1, nestDoc(math.MaxInt, nothing)),
		nestDoc(most, nestDoc(0, nestDoc(1, nothing))),
		nestDoc(1, groupDoc(nestDoc(most, nothing))),
		nestDoc(1, catDoc(nestDoc(most, nothing), nothing)),
		nestDoc(1, catDoc(nothing, nestDoc(most, nothing))),
		nestDoc(1, altDoc(nestDoc(most, nothing), nothing)),
		nestDoc(1, altDoc(nothing, nestDoc(most, nothing))),
		nestDoc(1, catDoc(nestDoc(most, nothing), nestDoc(2, nothing))),
		nestDoc(1, catDoc(nestDoc(2, nothing), nestDoc(most, nothing))),
		catDoc(nothing, nestDoc(1, nestDoc(most, nothing))),
		catDoc(nestDoc(1, nestDoc(most, nothing)), nothing),
	}
	for _, d := range bad {
		checkValid(t, "nests", d, false)
	}
	ones := slices.Clone(nothing)
	for range most {
		ones = nestDoc(1, ones)
	}
	checkValid(t, "nests by one", ones, true)
	checkValid(t, "one nest more", nestDoc(1, ones), false)
	checkValid(t, "many beside each other", catDoc(nothing, slices.Repeat([]doc{nestDoc(most, line)}, 10000)...), true)
}

// P3, first half.
func TestFlatText(t *testing.T) {
	a, b, e := textDoc("a"), textDoc("b"), textDoc("é")
	cases := []struct {
		d    doc
		flat string
		can  bool
	}{
		{nothing, "", true},
		{textDoc(""), "", true},
		{e, "é", true},
		{line, " ", true},
		{soft, "", true},
		{hard, "", false},
		{raw, "", false},
		{catDoc(a, b), "ab", true},
		{catDoc(a, line, b, soft, e), "a bé", true},
		{catDoc(line, line, soft, line), "   ", true},
		{nestDoc(5, catDoc(a, line, b)), "a b", true},
		{groupDoc(catDoc(a, line, b)), "a b", true},
		{nestDoc(2, groupDoc(nestDoc(3, catDoc(a, groupDoc(line), nestDoc(4, catDoc(soft, b)))))), "a b", true},
		{catDoc(a, hard), "", false},
		{catDoc(hard, a), "", false},
		{catDoc(a, catDoc(b, catDoc(e, raw))), "", false},
		{groupDoc(nestDoc(1, groupDoc(hard))), "", false},
		{groupDoc(nestDoc(1, groupDoc(raw))), "", false},
		{altDoc(a, b), "b", true},
		{altDoc(hard, b), "b", true},
		{altDoc(raw, b), "b", true},
		{altDoc(a, hard), "", false},
		{altDoc(a, raw), "", false},
		{altDoc(hard, raw), "", false},
		{altDoc(nestDoc(3, groupDoc(catDoc(a, hard, raw))), line), " ", true},
		{groupDoc(altDoc(a, groupDoc(hard))), "", false},
		{altDoc(altDoc(hard, hard), altDoc(raw, b)), "b", true},
		{altDoc(altDoc(a, b), altDoc(b, hard)), "", false},
		{altDoc(a, altDoc(b, altDoc(a, altDoc(b, e)))), "é", true},
		{altDoc(altDoc(altDoc(hard, hard), hard), b), "b", true},
		{catDoc(a, altDoc(hard, line), b, altDoc(raw, soft), e), "a bé", true},
		{catDoc(a, altDoc(hard, line), b, hard, e), "", false},
	}
	for _, c := range cases {
		flat, can := impl.FlatText(c.d)
		if string(flat) != c.flat || can != c.can {
			t.Errorf("%s: %q %v, want %q %v", short(c.d), flat, can, c.flat, c.can)
		}
	}
}

// P3, second half.
func TestLeadWidth(t *testing.T) {
	a, ab, wide := textDoc("a"), textDoc("ab"), textDoc("a\xc3\xa9\xe2\x82\xac\xf0\x9f\x98\x80")
	cases := []struct {
		d    doc
		lead int
	}{
		{nothing, 0},
		{textDoc(""), 0},
		{ab, 2},
		{wide, 4},
		{catDoc(wide, wide, a), 9},
		{line, 0}, {soft, 0}, {hard, 0}, {raw, 0},
		{catDoc(ab, line, wide), 2},
		{catDoc(ab, soft, wide), 2},
		{catDoc(ab, hard, wide), 2},
		{catDoc(ab, raw, wide), 2},
		{catDoc(line, wide), 0},
		{catDoc(wide, nothing, textDoc(""), a, raw, line), 5},
		{catDoc(ab, catDoc(a, catDoc(wide, catDoc(soft, a)))), 7},
		{groupDoc(catDoc(ab, line, a)), 2},
		{groupDoc(groupDoc(catDoc(ab, groupDoc(soft), a))), 2},
		{catDoc(groupDoc(ab), groupDoc(catDoc(a, line)), a), 3},
		// The indent comes behind the LF, never on the first line.
		{nestDoc(7, ab), 2},
		{nestDoc(7, catDoc(ab, line, a)), 2},
		{nestDoc(7, nestDoc(7, catDoc(groupDoc(ab), groupDoc(nestDoc(7, hard)), a))), 2},
		{altDoc(ab, wide), 2},
		{altDoc(wide, ab), 4},
		{altDoc(ab, hard), 2},
		{catDoc(altDoc(ab, hard), a), 3},
		{catDoc(altDoc(hard, ab), a), 0},
		{groupDoc(catDoc(altDoc(ab, line), a)), 3},
		{groupDoc(catDoc(a, altDoc(line, ab), a)), 1},
		{altDoc(altDoc(altDoc(wide, hard), a), ab), 4},
		{altDoc(altDoc(ab, altDoc(hard, wide)), altDoc(hard, a)), 2},
		{altDoc(catDoc(a, altDoc(catDoc(ab, raw), wide), a), hard), 3},
		{altDoc(catDoc(a, groupDoc(altDoc(ab, catDoc(wide, soft))), a), hard), 4},
	}
	for _, c := range cases {
		if lead := impl.LeadWidth(c.d); lead != c.lead {
			t.Errorf("%s: %d, want %d", short(c.d), lead, c.lead)
		}
	}
}

// plainDoc is a document written down anew from chapter 2, by recursion from
// the end of the list: what stands before the end of one document.
type plainDoc struct {
	flat   string
	can    bool
	broken string
	ok     bool
}

func readPlain(d doc, indent int) (plainDoc, doc) {
	if len(d) == 0 || indent > impl.MaxNest {
		return plainDoc{}, nil
	}
	last, rest := d[len(d)-1], d[:len(d)-1]
	newLine := "\n" + strings.Repeat(" ", indent)
	switch last.Kind {
	case impl.DocNil:
		return plainDoc{"", true, "", true}, rest
	case impl.DocText:
		return plainDoc{string(last.Text), true, string(last.Text), true}, rest
	case impl.DocLine:
		return plainDoc{" ", true, newLine, true}, rest
	case impl.DocSoft:
		return plainDoc{"", true, newLine, true}, rest
	case impl.DocHard:
		return plainDoc{"", false, newLine, true}, rest
	case impl.DocRaw:
		return plainDoc{"", false, "\n", true}, rest
	case impl.DocNest, impl.DocGroup:
		return readPlain(rest, indent+last.N)
	}
	right, rest := readPlain(rest, indent)
	left, rest := readPlain(rest, indent)
	both := left.ok && right.ok
	if last.Kind == impl.DocFlatAlt {
		return plainDoc{right.flat, right.can, left.broken, both}, rest
	}
	return plainDoc{left.flat + right.flat, left.can && right.can, left.broken + right.broken, both}, rest
}

func tellPlain(d doc) told {
	plain, rest := readPlain(d, 0)
	if !plain.ok || len(rest) > 0 {
		return notValid
	}
	first, _, _ := strings.Cut(plain.broken, "\n")
	if !plain.can {
		plain.flat = ""
	}
	return told{true, plain.flat, plain.can, utf8.RuneCountInString(first)}
}

// checkAll holds every list of that many elements against the plain reading.
func checkAll(t *testing.T, elements []impl.Piece, length int) {
	t.Helper()
	d := make(doc, length)
	at := make([]int, length)
	for {
		for i := range d {
			d[i] = elements[at[i]]
		}
		if got, want := tell(d), tellPlain(d); got != want {
			t.Fatalf("%s: %+v, want %+v", short(d), got, want)
		}
		i := 0
		for i < length && at[i] == len(elements)-1 {
			at[i] = 0
			i++
		}
		if i == length {
			return
		}
		at[i]++
	}
}

func TestSmallDocs(t *testing.T) {
	text := impl.Piece{Kind: impl.DocText, Text: []byte("é")}
	nest := impl.Piece{Kind: impl.DocNest, N: impl.MaxNest/2 + 1}
	elements := []impl.Piece{text, nest}
	for _, kind := range []int{impl.DocNil, impl.DocLine, impl.DocSoft, impl.DocHard, impl.DocRaw, impl.DocCat, impl.DocGroup, impl.DocFlatAlt} {
		elements = append(elements, impl.Piece{Kind: kind})
	}
	for length := range 6 {
		checkAll(t, elements, length)
	}
	few := []impl.Piece{text, {Kind: impl.DocLine}, {Kind: impl.DocHard}, {Kind: impl.DocCat}, {Kind: impl.DocFlatAlt}}
	checkAll(t, few, 7)
	checkAll(t, []impl.Piece{text, {Kind: impl.DocRaw}, {Kind: impl.DocFlatAlt}}, 9)
}

// growDoc makes a valid document out of numbers of a fixed rule.
func growDoc(seed uint32, size int) doc {
	next := func(below uint32) int {
		seed = seed*1664525 + 1013904223
		return int((seed >> 8) % below)
	}
	texts := []string{"", "a", "bc", "é", "€uro", "\U0001f600"}
	var d doc
	ready := 0
	for len(d) < size || ready > 1 {
		p := impl.Piece{Kind: next(10)}
		switch {
		case len(d) >= size:
			p.Kind = []int{impl.DocCat, impl.DocFlatAlt}[next(2)]
			ready--
		case p.Kind == impl.DocText:
			p.Text = []byte(texts[next(6)])
			ready++
		case p.Kind < impl.DocCat:
			if p.Kind == impl.DocHard && next(3) > 0 {
				p.Kind = impl.DocNil
			}
			ready++
		case ready == 0, ready == 1 && (p.Kind == impl.DocCat || p.Kind == impl.DocFlatAlt):
			continue
		case p.Kind == impl.DocNest:
			p.N = next(5)
		case p.Kind != impl.DocGroup:
			ready--
		}
		d = append(d, p)
	}
	return d
}

func TestGrownDocs(t *testing.T) {
	flat, lead := 0, 0
	for seed := range uint32(4000) {
		d := growDoc(seed, 1+int(seed)%60)
		want := tellPlain(d)
		checkDoc(t, "grown", d, want)
		if !want.valid {
			t.Fatalf("%s: not as it should grow", short(d))
		}
		if want.can {
			flat++
		}
		if want.lead > 2 {
			lead++
		}
	}
	if flat < 500 || lead < 100 {
		t.Errorf("of the grown documents %d can be flat, %d have a long first line", flat, lead)
	}
}

func TestDeepDocs(t *testing.T) {
	const size = impl.MaxPieces
	const half = size / 2
	texts := func(n int) doc { return slices.Repeat(textDoc("é"), n) }
	of := func(kind, n int) doc { return slices.Repeat(leafDoc(kind), n) }
	chain := func(kind int) doc { // to the left: every operator stands directly behind its right operand
		d := textDoc("é")
		for range half - 1 {
			d = append(d, textDoc("é")[0], impl.Piece{Kind: kind})
		}
		return groupDoc(d)
	}
	row := strings.Repeat("é", half)
	cases := []struct {
		name string
		d    doc
		want told
	}{
		{"nests", slices.Concat(texts(1), of(impl.DocNest, size-1)), told{true, "é", true, 1}},
		{"groups", slices.Concat(texts(1), of(impl.DocGroup, size-1)), told{true, "é", true, 1}},
		{"groups of a hard line", slices.Concat(hard, of(impl.DocGroup, size-1)), told{true, "", false, 0}},
		{"cats to the right", slices.Concat(texts(half), of(impl.DocCat, half-1), of(impl.DocGroup, 1)), told{true, row, true, half}},
		{"cats to the left", chain(impl.DocCat), told{true, row, true, half}},
		{"alts to the right", slices.Concat(texts(half-1), line, of(impl.DocFlatAlt, half-1), of(impl.DocGroup, 1)), told{true, " ", true, 1}},
		{"alts to the right, hard", slices.Concat(texts(half-1), hard, of(impl.DocFlatAlt, half-1), of(impl.DocGroup, 1)), told{true, "", false, 1}},
		{"alts to the left", chain(impl.DocFlatAlt), told{true, "é", true, 1}},
		{"an operand missing", slices.Concat(texts(half), of(impl.DocCat, half)), notValid},
		{"operands left", slices.Concat(texts(half+1), of(impl.DocCat, half-1)), notValid},
		{"documents alone", texts(size), notValid},
		{"operators alone", of(impl.DocCat, size), notValid},
		{"too deep by one", slices.Concat(texts(1), of(impl.DocNest, size)), notValid},
	}
	for _, c := range cases {
		checkDoc(t, c.name, c.d, c.want)
	}
}

func cloneDoc(d doc) doc {
	other := slices.Clone(d)
	for i := range other {
		other[i].Text = bytes.Clone(d[i].Text)
	}
	return other
}

func sameDoc(a, b doc) bool {
	return slices.EqualFunc(a, b, func(p, q impl.Piece) bool {
		return p.Kind == q.Kind && p.N == q.N && bytes.Equal(p.Text, q.Text)
	})
}

// roomyDoc answers the document with room behind its list and behind its Texts.
func roomyDoc(d doc) (doc, doc) {
	whole := slices.Concat(cloneDoc(d), doc{{Kind: impl.DocText, Text: []byte("behind")}, {Kind: 77, N: 7}})
	for i := range whole {
		whole[i].Text, _ = roomy(whole[i].Text, '~')
	}
	return whole[:len(d)], whole
}

// fullTexts answers the document with all that its Texts have room for.
func fullTexts(d doc) doc {
	other := slices.Clone(d)
	for i := range other {
		other[i].Text = other[i].Text[:cap(other[i].Text)]
	}
	return other
}

func TestDocMemory(t *testing.T) {
	docs := []doc{
		nil, nothing, textDoc("abc"), textDoc(""), catDoc(textDoc("ab"), textDoc("é")),
		groupDoc(nestDoc(3, catDoc(textDoc("a"), line, altDoc(hard, textDoc("xy")), soft))),
		catDoc(textDoc("ab"), hard, textDoc("c")),
		catDoc(textDoc("ab"), textDoc("\xff")),
		catDoc(textDoc("ab"), textDoc("c"), raw)[:4],
	}
	for _, d := range docs {
		given, whole := roomyDoc(d)
		before := cloneDoc(fullTexts(whole))
		want := tell(given)
		if !sameDoc(fullTexts(whole), before) {
			t.Errorf("%s: an argument is written into", short(d))
		}
		first, _ := impl.FlatText(given)
		for i := range first[:cap(first)] {
			first[:cap(first)][i] = '!'
		}
		if !sameDoc(fullTexts(whole), before) {
			t.Errorf("%s: the flat text is memory of the argument", short(d))
		}
		second, can := impl.FlatText(given)
		for i := range fullTexts(whole) {
			text := fullTexts(whole)[i].Text
			for j := range text {
				text[j] = '?'
			}
			whole[i] = impl.Piece{Kind: 5}
		}
		if string(second) != want.flat || can != want.can {
			t.Errorf("%s: the flat text changes with the argument: %q", short(d), second)
		}
		checkDoc(t, "at a later call", cloneDoc(d), want)
	}
}

// With false beside it the list is empty, whatever was laid out before the end.
func TestFlatTextEmptyWithFalse(t *testing.T) {
	for _, d := range []doc{nil, catDoc(textDoc("abc"), hard), catDoc(textDoc("abc"), line, raw), catDoc(textDoc("abc"), textDoc("\n")), slices.Concat(textDoc("abc"), textDoc("d"))} {
		if flat, can := impl.FlatText(d); can || len(flat) > 0 {
			t.Errorf("%s: %q %v", short(d), flat, can)
		}
	}
}
