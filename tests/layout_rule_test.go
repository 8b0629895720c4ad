package tests

import (
	"slices"
	"strings"
	"testing"
	"unicode/utf8"

	"loop.example/s02863/impl"
)

// plainTree is a document written down anew from chapters 2 and 3, to be laid
// out by recursion and with whole texts, without a thought for time.
type plainTree struct {
	kind  int
	text  string
	n     int
	group int
	left  *plainTree // the one operand, too
	right *plainTree
}

func plainOf(d doc) (*plainTree, int) {
	var ready []*plainTree
	groups := 0
	pop := func() *plainTree {
		top := ready[len(ready)-1]
		ready = ready[:len(ready)-1]
		return top
	}
	for _, p := range d {
		tree := &plainTree{kind: p.Kind, text: string(p.Text), n: p.N, group: -1}
		switch p.Kind {
		case impl.DocCat, impl.DocFlatAlt:
			tree.right = pop()
			tree.left = pop()
		case impl.DocNest, impl.DocGroup:
			tree.left = pop()
		}
		if p.Kind == impl.DocGroup {
			tree.group = groups
			groups++
		}
		ready = append(ready, tree)
	}
	return ready[0], groups
}

// brokenText is the text with every group broken.
func (p *plainTree) brokenText(indent int) string {
	switch p.kind {
	case impl.DocText:
		return p.text
	case impl.DocLine, impl.DocSoft, impl.DocHard:
		return "\n" + strings.Repeat(" ", indent)
	case impl.DocRaw:
		return "\n"
	case impl.DocNest:
		return p.left.brokenText(indent + p.n)
	case impl.DocGroup, impl.DocFlatAlt:
		return p.left.brokenText(indent)
	case impl.DocCat:
		return p.left.brokenText(indent) + p.right.brokenText(indent)
	}
	return ""
}

// flatText is the text in flat mode, with "\n" in it if there is none.
func (p *plainTree) flatText() string {
	switch p.kind {
	case impl.DocText:
		return p.text
	case impl.DocLine:
		return " "
	case impl.DocHard, impl.DocRaw:
		return "\n"
	case impl.DocNest, impl.DocGroup:
		return p.left.flatText()
	case impl.DocFlatAlt:
		return p.right.flatText()
	case impl.DocCat:
		return p.left.flatText() + p.right.flatText()
	}
	return ""
}

// meeting is a group in the order in which they are met. line is the width of
// the line on which it begins, with the group flat and all behind it broken.
type meeting struct {
	group  int
	inFlat bool
	can    bool
	line   int
	choice int
}

// plainRun lays a document out; choose is asked for groups met in broken mode.
type plainRun struct {
	text   string
	met    []meeting
	choose func(m meeting) int
}

// meet answers whether the group is flat. behind is all that comes after it,
// broken.
func (r *plainRun) meet(p *plainTree, inFlat bool, behind string) bool {
	within := p.left.flatText()
	before := r.text[strings.LastIndex(r.text, "\n")+1:]
	after, _, _ := strings.Cut(behind, "\n")
	m := meeting{group: p.group, inFlat: inFlat, can: !strings.Contains(within, "\n"), choice: impl.ChoiceFlat}
	m.line = utf8.RuneCountInString(before) + utf8.RuneCountInString(within) + utf8.RuneCountInString(after)
	if !inFlat {
		m.choice = r.choose(m)
	}
	r.met = append(r.met, m)
	return m.choice == impl.ChoiceFlat
}

func (r *plainRun) lay(p *plainTree, indent int, behind string) {
	switch p.kind {
	case impl.DocNest:
		r.lay(p.left, indent+p.n, behind)
	case impl.DocGroup:
		if r.meet(p, false, behind) {
			r.text += p.left.flatText()
			r.meetFlat(p.left)
		} else {
			r.lay(p.left, indent, behind)
		}
	case impl.DocFlatAlt:
		r.lay(p.left, indent, behind)
	case impl.DocCat:
		r.lay(p.left, indent, p.right.brokenText(indent)+behind)
		r.lay(p.right, indent, behind)
	default:
		r.text += p.brokenText(indent)
	}
}

// meetFlat meets the groups in what is flat.
func (r *plainRun) meetFlat(p *plainTree) {
	switch p.kind {
	case impl.DocFlatAlt:
		r.meetFlat(p.right)
	case impl.DocCat:
		r.meetFlat(p.left)
		r.meetFlat(p.right)
	case impl.DocGroup:
		r.meet(p, true, "")
		fallthrough
	case impl.DocNest:
		r.meetFlat(p.left)
	}
}

func plainLayout(d doc, width int) (string, []meeting, []int) {
	tree, groups := plainOf(d)
	r := plainRun{choose: func(m meeting) int {
		if m.can && m.line <= width {
			return impl.ChoiceFlat
		}
		return impl.ChoiceBroken
	}}
	r.lay(tree, 0, "")
	choices := make([]int, groups)
	for _, m := range r.met {
		choices[m.group] = m.choice
	}
	return r.text, r.met, choices
}

// plainRender answers false for choices that the document does not take.
func plainRender(d doc, choices []int) (string, bool) {
	tree, groups := plainOf(d)
	if len(choices) != groups {
		return "", false
	}
	r := plainRun{choose: func(m meeting) int { return choices[m.group] }}
	r.lay(tree, 0, "")
	left := slices.Clone(choices)
	for _, m := range r.met {
		switch given := choices[m.group]; {
		case given != impl.ChoiceFlat && given != impl.ChoiceBroken:
			return "", false
		case m.inFlat && given != impl.ChoiceFlat:
			return "", false
		case given == impl.ChoiceFlat && !m.can:
			return "", false
		}
		left[m.group] = impl.ChoiceNone
	}
	if slices.ContainsFunc(left, func(c int) bool { return c != impl.ChoiceNone }) {
		return "", false
	}
	return r.text, true
}

// allChoices goes through every list of so many of the numbers below.
func allChoices(groups, below int) [][]int {
	all := [][]int{nil}
	for range groups {
		var longer [][]int
		for _, c := range all {
			for choice := range below {
				longer = append(longer, append(slices.Clone(c), choice))
			}
		}
		all = longer
	}
	return all
}

// checkRule holds Render with all choices against the plain reading, and
// Layout with some widths against P4 and, by all choices taken, against P5.
func checkRule(t *testing.T, d doc, widths []int) {
	t.Helper()
	_, groups := plainOf(d)
	var taken [][]int
	for _, choices := range allChoices(groups, 4) {
		text, code := impl.Render(d, choices)
		want, takes := plainRender(d, choices)
		if (code == impl.CodeOK) != takes || !takes && code != impl.CodeBad || string(text) != want {
			t.Fatalf("%s: Render %v: %q %d, want %q %v", short(d), choices, text, code, want, takes)
		}
		if takes {
			taken = append(taken, choices)
		}
	}
	for _, width := range widths {
		text, choices, code := impl.Layout(d, width)
		wantText, met, wantChoices := plainLayout(d, width)
		if code != impl.CodeOK || string(text) != wantText || !slices.Equal(choices, wantChoices) {
			t.Fatalf("%s, width %d: %q %v %d, want %q %v", short(d), width, text, choices, code, wantText, wantChoices)
		}
		if again, code := impl.Render(d, choices); code != impl.CodeOK || string(again) != string(text) {
			t.Fatalf("%s, width %d: Render %v: %q %d, want %q", short(d), width, choices, again, code, text)
		}
		for _, other := range taken {
			checkFirstDifference(t, d, width, met, choices, other)
		}
	}
}

// P5.
func checkFirstDifference(t *testing.T, d doc, width int, met []meeting, choices, other []int) {
	t.Helper()
	for _, m := range met {
		if choices[m.group] == other[m.group] {
			continue
		}
		if (choices[m.group] == impl.ChoiceFlat) != (m.line <= width) {
			t.Fatalf("%s, width %d: %v, against %v: the line of group %d is %d wide", short(d), width, choices, other, m.group, m.line)
		}
		return
	}
	if !slices.Equal(choices, other) {
		t.Fatalf("%s, width %d: %v, against %v: they differ in no group that is met", short(d), width, choices, other)
	}
}

// smallDocs goes through all valid documents of so many of the elements.
func smallDocs(elements []impl.Piece, length int, see func(doc)) {
	var grow func(d doc, ready int)
	grow = func(d doc, ready int) {
		if len(d) == length {
			if ready == 1 {
				see(d)
			}
			return
		}
		for _, p := range elements {
			operands := 0
			switch p.Kind {
			case impl.DocCat, impl.DocFlatAlt:
				operands = 2
			case impl.DocNest, impl.DocGroup:
				operands = 1
			}
			if ready >= operands {
				grow(append(d, p), ready-operands+1)
			}
		}
	}
	grow(make(doc, 0, length), 0)
}

func TestLayoutSmallDocs(t *testing.T) {
	text := impl.Piece{Kind: impl.DocText, Text: []byte("é")}
	group, cat, alt := impl.Piece{Kind: impl.DocGroup}, impl.Piece{Kind: impl.DocCat}, impl.Piece{Kind: impl.DocFlatAlt}
	gap, stop := impl.Piece{Kind: impl.DocLine}, impl.Piece{Kind: impl.DocHard}
	all := []impl.Piece{text, group, cat, alt, gap, stop, {Kind: impl.DocNest, N: 2}, {Kind: impl.DocNil}, {Kind: impl.DocSoft}, {Kind: impl.DocRaw}}
	seen := 0
	see := func(d doc) {
		seen++
		checkRule(t, d, []int{0, 1, 2, 3, 4})
	}
	for length := range 7 {
		smallDocs(all, length, see)
	}
	smallDocs([]impl.Piece{text, group, cat, alt, gap, stop}, 7, see)
	smallDocs([]impl.Piece{text, group, cat, gap}, 8, see)
	if seen < 10000 {
		t.Errorf("%d documents", seen)
	}
}

// growPretty makes a valid document in which groups have more to choose.
func growPretty(seed uint32, depth int) doc {
	next := func(below uint32) int {
		seed = seed*1664525 + 1013904223
		return int((seed >> 8) % below)
	}
	texts := []string{"", "a", "bc", "é", "€uro", "\U0001f600"}
	var grow func(depth int) doc
	grow = func(depth int) doc {
		kind := next(14)
		if depth == 0 {
			kind = next(6)
		}
		switch kind {
		case 0, 1, 2:
			return textDoc(texts[next(6)])
		case 3:
			return line
		case 4:
			return soft
		case 5:
			return [][]impl.Piece{nothing, hard, raw, line, soft, nothing, line}[next(7)]
		case 6:
			return nestDoc(next(4), grow(depth-1))
		case 7, 8, 9:
			return groupDoc(grow(depth - 1))
		case 10:
			return altDoc(grow(depth-1), grow(depth-1))
		}
		return catDoc(grow(depth-1), grow(depth-1), grow(depth-1))
	}
	return grow(depth)
}

func TestLayoutGrownDocs(t *testing.T) {
	var choices [3]int
	for seed := range uint32(3000) {
		d := growPretty(seed, 3+int(seed)%6)
		for _, width := range []int{0, 3, 6, 10, 20, 40, impl.MaxWidth} {
			text, _, want := plainLayout(d, width)
			checkLayout(t, "grown", d, width, text, want...)
			for _, c := range want {
				choices[c]++
			}
		}
		if _, groups := plainOf(d); groups < 6 {
			checkRule(t, d, []int{1, 2, 4, 7, 12})
		}
	}
	for choice, number := range choices {
		if number < 1000 {
			t.Errorf("of the grown documents' groups %d have choice %d", number, choice)
		}
	}
	for seed := range uint32(2000) {
		d := growDoc(seed, 1+int(seed)%60)
		for _, width := range []int{0, 4, 9, 30} {
			text, _, want := plainLayout(d, width)
			checkLayout(t, "grown", d, width, text, want...)
		}
	}
}

// fullDoc answers the document in so many nests by 0 that it has MaxPieces
// elements.
func fullDoc(d doc) doc {
	return slices.Concat(d, slices.Repeat(leafDoc(impl.DocNest), impl.MaxPieces-len(d)))
}

func TestLayoutLongDocs(t *testing.T) {
	const size = impl.MaxPieces
	of := func(kind, n int) doc { return slices.Repeat(leafDoc(kind), n) }
	all := func(choice, n int) []int { return slices.Repeat([]int{choice}, n) }

	deep := slices.Concat(textDoc("é"), of(impl.DocGroup, size-1))
	checkLayout(t, "groups in each other", deep, 1, "é", all(flat, size-1)...)
	checkLayout(t, "groups in each other", deep, 0, "é", all(broken, size-1)...)
	checkLayout(t, "groups in each other, a hard line", slices.Concat(hard, of(impl.DocGroup, size-1)), 9, "\n", all(broken, size-1)...)
	checkNoLayout(t, "one element more", append(deep, impl.Piece{Kind: impl.DocGroup}), 1)
	checkNoRender(t, "one element more", append(deep, impl.Piece{Kind: impl.DocGroup}), all(flat, size)...)

	// Cats to the left and to the right, filled up with nests of nothing.
	const items = size / 3
	item := groupDoc(textDoc("é"))
	left := catDoc(item, slices.Repeat([]doc{item}, items-1)...)
	right := slices.Concat(slices.Repeat(item, items), of(impl.DocCat, items-1))
	for _, d := range []doc{left, right} {
		text := strings.Repeat("é", items)
		d = fullDoc(d)
		checkLayout(t, "groups in a row", d, items, text, all(flat, items)...)
		checkLayout(t, "groups in a row", d, items-1, text, all(broken, items)...)
	}

	// Every group has all the others in it and behind its begin.
	const rounds = (size - 1) / 4
	chain := textDoc("é")
	for range rounds {
		chain = append(chain, impl.Piece{Kind: impl.DocLine}, impl.Piece{Kind: impl.DocCat}, impl.Piece{Kind: impl.DocGroup}, impl.Piece{Kind: impl.DocNest})
	}
	chain = fullDoc(chain)
	checkLayout(t, "a chain", chain, rounds+1, "é"+strings.Repeat(" ", rounds), all(flat, rounds)...)
	checkLayout(t, "a chain", chain, 0, "é"+strings.Repeat("\n", rounds), all(broken, rounds)...)
	half := slices.Concat(all(flat, rounds/2), all(broken, rounds-rounds/2))
	checkLayout(t, "a chain, half of it", chain, rounds/2+1, "é"+strings.Repeat(" ", rounds/2)+strings.Repeat("\n", rounds-rounds/2), half...)

	alts := slices.Clone(textDoc("é"))
	for range rounds {
		alts = append(alts, impl.Piece{Kind: impl.DocGroup}, impl.Piece{Kind: impl.DocNil}, impl.Piece{Kind: impl.DocFlatAlt}, impl.Piece{Kind: impl.DocGroup})
	}
	alts = fullDoc(alts)
	unmet := append(all(none, 2*rounds-1), flat)
	checkLayout(t, "alts, not met", alts, 0, "", unmet...)
}

func TestLayoutLongText(t *testing.T) {
	const lines = 10000
	row := slices.Repeat([]doc{groupDoc(line)}, lines)
	d := nestDoc(impl.MaxNest, catDoc(nothing, row...))
	text := strings.Repeat("\n"+strings.Repeat(" ", impl.MaxNest), lines)
	checkLayout(t, "many lines of the greatest indent", d, 0, text, slices.Repeat([]int{broken}, lines)...)
	checkLayout(t, "one line", d, lines, strings.Repeat(" ", lines), slices.Repeat([]int{flat}, lines)...)
}

func TestLayoutMemory(t *testing.T) {
	ab := textDoc("ab")
	docs := []doc{
		nil, nothing, ab, groupDoc(ab), groupDoc(hard), catDoc(ab, textDoc("\xff")),
		groupDoc(nestDoc(3, catDoc(ab, line, groupDoc(altDoc(groupDoc(hard), textDoc("xy"))), soft))),
		catDoc(groupDoc(ab), hard, altDoc(groupDoc(line), groupDoc(textDoc("c")))),
	}
	for _, d := range docs {
		for _, width := range []int{-1, 0, 4, 80} {
			given, whole := roomyDoc(d)
			before := cloneDoc(fullTexts(whole))
			text, choices, code := impl.Layout(given, width)
			wantText, wantChoices := slices.Clone(text), slices.Clone(choices)
			givenChoices, wholeChoices := roomy(choices, 7)
			beforeChoices := slices.Clone(wholeChoices)
			again, againCode := impl.Render(given, givenChoices)
			if !sameDoc(fullTexts(whole), before) || !slices.Equal(wholeChoices, beforeChoices) {
				t.Errorf("%s, width %d: an argument is written into", short(d), width)
			}
			if code == impl.CodeOK && (againCode != code || !slices.Equal(again, text)) {
				t.Errorf("%s, width %d: %q %d, want %q", short(d), width, again, againCode, text)
			}
			fill(again, '!')
			fill(choices, -7)
			if !slices.Equal(text, wantText) {
				t.Errorf("%s, width %d: two answers are one memory", short(d), width)
			}
			fill(text, '!')
			if !sameDoc(fullTexts(whole), before) || !slices.Equal(wholeChoices, beforeChoices) {
				t.Errorf("%s, width %d: an answer is memory of an argument", short(d), width)
			}
			checkLaterAnswers(t, d, width, wantText, wantChoices, code)
		}
	}
}

// fill writes over a list and what it has room for.
func fill[E any](list []E, with E) {
	for i := range list[:cap(list)] {
		list[:cap(list)][i] = with
	}
}

// checkLaterAnswers holds answers against what they were, after the arguments
// that they came from are written over.
func checkLaterAnswers(t *testing.T, d doc, width int, wantText []byte, wantChoices []int, wantCode int) {
	t.Helper()
	given := cloneDoc(d)
	text, choices, code := impl.Layout(given, width)
	givenChoices := slices.Clone(choices)
	again, _ := impl.Render(given, givenChoices)
	wantAgain := slices.Clone(again)
	for i := range given {
		fill(given[i].Text, '?')
		given[i] = impl.Piece{Kind: impl.DocRaw}
	}
	fill(givenChoices, -7)
	if code != wantCode || !slices.Equal(text, wantText) || !slices.Equal(choices, wantChoices) || !slices.Equal(again, wantAgain) {
		t.Errorf("%s, width %d: an answer changes with the argument or from call to call: %q %v %d %q", short(d), width, text, choices, code, again)
	}
}
