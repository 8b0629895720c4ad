package tests

import (
	"slices"
	"testing"

	"loop.example/s02863/impl"
)

// roomy answers a list of the same elements with room behind them, and the
// whole of it: a function that appends to its argument shows there.
func roomy[E any](list []E, behind E) ([]E, []E) {
	whole := slices.Concat(list, []E{behind, behind, behind, behind})
	return whole[:len(list)], whole
}

// checkMemory holds one function from a list to a list against the rules on
// memory, with an argument that ends with CodeOK or one that does not.
func checkMemory[A, B comparable](t *testing.T, name string, f func([]A) []B, arg []A, otherA A, otherB B) {
	t.Helper()
	given, whole := roomy(arg, otherA)
	before := slices.Clone(whole)
	first := f(given)
	if !slices.Equal(whole, before) {
		t.Errorf("%s(%v) writes into its argument: %v", name, arg, whole)
	}
	want := slices.Clone(first)
	for i := range whole {
		whole[i] = otherA
	}
	if !slices.Equal(first, want) {
		t.Errorf("%s(%v): the answer changes with the argument: %v", name, arg, first)
	}
	second := f(slices.Clone(arg))
	for i := range first[:cap(first)] {
		first[:cap(first)][i] = otherB
	}
	if !slices.Equal(second, want) {
		t.Errorf("%s(%v): two answers are one memory: %v", name, arg, second)
	}
	if !slices.Equal(whole, slices.Repeat([]A{otherA}, len(whole))) {
		t.Errorf("%s(%v): the answer is memory of the argument", name, arg)
	}
	if third := f(slices.Clone(arg)); !slices.Equal(third, want) {
		t.Errorf("%s(%v): another answer at a later call: %v", name, arg, third)
	}
}

func TestTextMemory(t *testing.T) {
	decode := func(b []byte) []int { p, _, _ := impl.DecodeText(b); return p }
	encode := func(p []int) []byte { b, _ := impl.EncodeText(p); return b }
	toUnits := func(p []int) []int { u, _ := impl.ToUnits(p); return u }
	fromUnits := func(u []int) []int { p, _ := impl.FromUnits(u); return p }
	width := func(b []byte) []int { return []int{impl.TextWidth(b)} }

	for _, text := range []string{"", "abc", "a\xc3\xa9\xe2\x82\xac\xf0\x9f\x98\x80", "ab\xff", "\xf0\x9f"} {
		checkMemory(t, "DecodeText", decode, []byte(text), 'z', -7)
		checkMemory(t, "TextWidth", width, []byte(text), 'z', -7)
	}
	for _, points := range [][]int{nil, {'a', 'b'}, {'a', 0xe9, 0x20ac, 0x1f600}, {'a', 0xd800}, {-1}} {
		checkMemory(t, "EncodeText", encode, points, 'z', '!')
		checkMemory(t, "ToUnits", toUnits, points, 'z', -7)
	}
	for _, units := range [][]int{nil, {'a', 'b'}, {0xd83d, 0xde00, 'a'}, {0xde00, 0xd83d}, {'a', 65536}} {
		checkMemory(t, "FromUnits", fromUnits, units, 'z', -7)
	}
	// A low surrogate behind the end of the list is not its next unit.
	checkMemory(t, "FromUnits", fromUnits, []int{'a', 0xd83d}, 0xde00, -7)
	// Nor do bytes behind the end of the text belong to its last form.
	checkMemory(t, "DecodeText", decode, []byte("a\xf0\x9f"), 0x80, -7)
}

func TestCodesAsNumbers(t *testing.T) {
	codes := []int{impl.CodeOK, impl.CodeBad, impl.CodeText, impl.CodeSyntax, impl.CodeLimit, impl.CodeNone, impl.CodeFault}
	if !slices.Equal(codes, []int{0, 1, 2, 3, 4, 5, 6}) {
		t.Errorf("codes: %v", codes)
	}
	if impl.MaxInput != 4000 || impl.MaxTexts != 100000 {
		t.Errorf("limits: %d, %d", impl.MaxInput, impl.MaxTexts)
	}
}
