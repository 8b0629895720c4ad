package tests

import (
	"bytes"
	"slices"
	"testing"
	"unicode/utf8"

	"loop.example/s02863/impl"
)

// goodTexts pair UTF-8 with its code points, written out by hand.
var goodTexts = []struct {
	text   string
	points []int
}{
	{"", nil},
	{"\x00", []int{0}},
	{"a\x00b", []int{'a', 0, 'b'}},
	{"{\"key\": 1}\r\n", []int{'{', '"', 'k', 'e', 'y', '"', ':', ' ', '1', '}', '\r', '\n'}},
	{"a\xc3\xa9\xe2\x82\xac\xf0\x9f\x98\x80z", []int{'a', 0xe9, 0x20ac, 0x1f600, 'z'}},
	{"\xf0\x9f\x98\x80\xe2\x82\xac\xc3\xa9a", []int{0x1f600, 0x20ac, 0xe9, 'a'}},
	{"\xef\xbb\xbfa", []int{0xfeff, 'a'}},
	{"\x7f", []int{127}},
	{"\xc2\x80", []int{128}},
	{"\xdf\xbf", []int{2047}},
	{"\xe0\xa0\x80", []int{2048}},
	{"\xe2\x80\xa8\xe2\x80\xa9", []int{0x2028, 0x2029}},
	{"\xed\x9f\xbf", []int{0xd7ff}},
	{"\xee\x80\x80", []int{0xe000}},
	{"\xef\xbf\xbd", []int{0xfffd}},
	{"\xef\xbf\xbf", []int{65535}},
	{"\xf0\x90\x80\x80", []int{65536}},
	{"\xf4\x8f\xbf\xbf", []int{1114111}},
}

// badTexts pair bytes that are no UTF-8 with the offset of the first fault.
var badTexts = []struct {
	name string
	text string
	at   int
}{
	{"two bytes for 0", "\xc0\x80", 0},
	{"two bytes for 127", "ab\xc1\xbf", 2},
	{"three bytes for 0", "\xe0\x80\x80", 0},
	{"three bytes for 2047", "\xc3\xa9\xe0\x9f\xbf", 2},
	{"four bytes for 0", "\xf0\x80\x80\x80", 0},
	{"four bytes for 65535", "\xe2\x82\xac\xf0\x8f\xbf\xbf", 3},
	{"first high surrogate", "a\xed\xa0\x80", 1},
	{"last high surrogate", "\xed\xaf\xbf", 0},
	{"first low surrogate", "\xed\xb0\x80", 0},
	{"last low surrogate", "\xed\xbf\xbf", 0},
	{"a pair of surrogates", "\xed\xa0\xbd\xed\xb8\x80", 0},
	{"point 1114112", "\xf0\x9f\x98\x80\xf4\x90\x80\x80", 4},
	{"greatest payload of four bytes", "\xf7\xbf\xbf\xbf", 0},
	{"first byte f5", "\xf5\x80\x80\x80", 0},
	{"first byte of five", "\xf8\x88\x80\x80\x80", 0},
	{"first byte of six", "\xfc\x84\x80\x80\x80\x80", 0},
	{"byte fe", "ok\xfe", 2},
	{"byte ff", "\xff", 0},
	{"two bytes, cut off by the end", "ab\xc3", 2},
	{"three bytes, one there", "\xe2", 0},
	{"three bytes, two there", "x\xe2\x82", 1},
	{"four bytes, one there", "\xf0", 0},
	{"four bytes, two there", "\xf0\x9f", 0},
	{"four bytes, three there", "xy\xf0\x9f\x98", 2},
	{"two bytes, cut off by a letter", "\xc3a", 0},
	{"three bytes, cut off by a letter", "\xe2\x82a", 0},
	{"three bytes, cut off at once", "\xe2ab", 0},
	{"four bytes, cut off by a letter", "\xf0\x9f\x98a", 0},
	{"four bytes, cut off in the middle", "\xf0\x9fab", 0},
	{"four bytes, cut off at once", "\xf0abc", 0},
	{"two bytes, cut off by another form", "\xc3\xc3\xa9", 0},
	{"three bytes, cut off by another form", "\xe2\x82\xe2\x82\xac", 0},
	{"second byte above bf", "\xc3\xc0", 0},
	{"a byte that only goes on", "\x80", 0},
	{"last byte that only goes on", "a\xbf", 1},
	{"one such byte behind a whole form", "\xc3\xa9\xa9", 2},
	{"two faults, the first counts", "a\xffb\x80", 1},
}

func TestDecodeGoodTexts(t *testing.T) {
	for _, c := range goodTexts {
		points, code, at := impl.DecodeText([]byte(c.text))
		if code != impl.CodeOK || at != 0 || !slices.Equal(points, c.points) {
			t.Errorf("DecodeText(%q): %v, code %d, offset %d; want %v", c.text, points, code, at, c.points)
		}
	}
}

func TestEncodeGoodTexts(t *testing.T) {
	for _, c := range goodTexts {
		b, code := impl.EncodeText(c.points)
		if code != impl.CodeOK || string(b) != c.text {
			t.Errorf("EncodeText(%v): %q, code %d; want %q", c.points, b, code, c.text)
		}
	}
}

func TestWidthOfGoodTexts(t *testing.T) {
	for _, c := range goodTexts {
		if w := impl.TextWidth([]byte(c.text)); w != len(c.points) {
			t.Errorf("TextWidth(%q): %d; want %d", c.text, w, len(c.points))
		}
	}
}

func TestNilIsTheEmptyText(t *testing.T) {
	if points, code, at := impl.DecodeText(nil); len(points) != 0 || code != impl.CodeOK || at != 0 {
		t.Errorf("DecodeText(nil): %v, %d, %d", points, code, at)
	}
	if b, code := impl.EncodeText([]int{}); len(b) != 0 || code != impl.CodeOK {
		t.Errorf("EncodeText of no points: %q, %d", b, code)
	}
	if w := impl.TextWidth(nil); w != 0 {
		t.Errorf("TextWidth(nil): %d", w)
	}
}

func TestDecodeBadTexts(t *testing.T) {
	for _, c := range badTexts {
		points, code, at := impl.DecodeText([]byte(c.text))
		if code != impl.CodeText || at != c.at || len(points) != 0 {
			t.Errorf("%s: DecodeText(%q): %v, code %d, offset %d; want offset %d", c.name, c.text, points, code, at, c.at)
		}
	}
}

func TestWidthOfBadTexts(t *testing.T) {
	for _, c := range badTexts {
		if w := impl.TextWidth([]byte(c.text)); w != -1 {
			t.Errorf("%s: TextWidth(%q): %d; want -1", c.name, c.text, w)
		}
	}
}

func TestEncodeBadPoints(t *testing.T) {
	bad := []int{-1, -0x80, -1 << 62, 0xd800, 0xdbff, 0xdc00, 0xdfff, 1114112, 0x1fffff, 1 << 32, 1<<32 + 'a', 1<<63 - 1}
	for _, p := range bad {
		for _, points := range [][]int{{p}, {'a', p}, {p, 'a'}, {0x1f600, p, 0xe9}} {
			if b, code := impl.EncodeText(points); code != impl.CodeBad || len(b) != 0 {
				t.Errorf("EncodeText(%x): %q, code %d", points, b, code)
			}
		}
	}
	if b, code := impl.EncodeText([]int{0xd83d, 0xde00}); code != impl.CodeBad || len(b) != 0 {
		t.Errorf("EncodeText of a pair: %q, code %d", b, code)
	}
}

func TestEveryPointBothWays(t *testing.T) {
	for p := 0; p <= 1114111; p++ {
		b, code := impl.EncodeText([]int{p})
		if p >= 0xd800 && p <= 0xdfff {
			if code != impl.CodeBad || len(b) != 0 {
				t.Fatalf("EncodeText(%x): %q, code %d", p, b, code)
			}
			continue
		}
		if code != impl.CodeOK || string(b) != string(rune(p)) {
			t.Fatalf("EncodeText(%x): %q, code %d", p, b, code)
		}
		points, code, at := impl.DecodeText(b)
		if code != impl.CodeOK || at != 0 || len(points) != 1 || points[0] != p {
			t.Fatalf("DecodeText(%q): %x, code %d, offset %d", b, points, code, at)
		}
	}
}

// libraryDecode is DecodeText by way of the library.
func libraryDecode(b []byte) ([]int, int, int) {
	var points []int
	for at := 0; at < len(b); {
		r, size := utf8.DecodeRune(b[at:])
		if r == utf8.RuneError && size <= 1 {
			return nil, impl.CodeText, at
		}
		points = append(points, int(r))
		at += size
	}
	return points, impl.CodeOK, 0
}

func checkAgainstLibrary(t *testing.T, b []byte) {
	t.Helper()
	want, wantCode, wantAt := libraryDecode(b)
	points, code, at := impl.DecodeText(b)
	if code != wantCode || at != wantAt || !slices.Equal(points, want) {
		t.Fatalf("DecodeText(%q): %x, code %d, offset %d; want %x, %d, %d", b, points, code, at, want, wantCode, wantAt)
	}
	width := -1
	if code == impl.CodeOK {
		width = len(want)
		if again, code := impl.EncodeText(points); code != impl.CodeOK || !bytes.Equal(again, b) {
			t.Fatalf("EncodeText(%x): %q, code %d; want %q", points, again, code, b)
		}
	}
	if w := impl.TextWidth(b); w != width {
		t.Fatalf("TextWidth(%q): %d; want %d", b, w, width)
	}
}

func TestAllShortLists(t *testing.T) {
	checkAgainstLibrary(t, nil)
	for x := range 256 {
		checkAgainstLibrary(t, []byte{byte(x)})
		for y := range 256 {
			checkAgainstLibrary(t, []byte{byte(x), byte(y)})
		}
	}
}

// TestListsOfEdgeBytes takes every list of four of the bytes at which a rule
// begins or ends to hold.
func TestListsOfEdgeBytes(t *testing.T) {
	edges := []byte("\x00a\x7f\x80\x8f\x90\x9f\xa0\xbf\xc0\xc1\xc2\xdf\xe0\xe1\xec\xed\xee\xef\xf0\xf1\xf3\xf4\xf5\xf7\xf8\xff")
	b := make([]byte, 4)
	for _, b[0] = range edges {
		for _, b[1] = range edges {
			for _, b[2] = range edges {
				for _, b[3] = range edges {
					checkAgainstLibrary(t, b)
					checkAgainstLibrary(t, b[:3])
				}
			}
		}
	}
}

func TestLongText(t *testing.T) {
	text := bytes.Repeat([]byte("a\xc3\xa9\xe2\x82\xac\xf0\x9f\x98\x80"), 20000)
	checkAgainstLibrary(t, text)
	checkAgainstLibrary(t, append(text, 0xf0))
}
