package tests

import (
	"regexp"
	"strings"
	"testing"

	"loop.example/s02863/impl"
)

const (
	letters = "ABCDEFGHIJKLMNOPQRSTUVWXYZabcdefghijklmnopqrstuvwxyz"
	digits  = "0123456789"
)

func checkName(t *testing.T, units []int, want bool) {
	t.Helper()
	if impl.IsName(units) != want {
		t.Errorf("IsName(%x): %v", units, !want)
	}
}

func TestNames(t *testing.T) {
	checkName(t, nil, false)
	checkName(t, []int{}, false)
	for _, name := range []string{"a", "Z", "_", "$", "a1", "_0", "$$9_", "null", "Infinity", "abcXYZ_019$", "__proto__"} {
		checkName(t, unitsOf(name), true)
	}
	for _, other := range []string{"1", "1a", "0_", "9$", "a-b", "a.b", "a+", " a", "a ", "a\n", "a\\", "a'", "é", "aé", "😀", "a😀", "\u2028", "ａ", "a٣"} {
		checkName(t, unitsOf(other), false)
	}
}

func unitsOf(text string) []int {
	points, _, _ := impl.DecodeText([]byte(text))
	units, _ := impl.ToUnits(points)
	return units
}

func TestEveryUnitInAName(t *testing.T) {
	for u := range 65536 {
		starts := u < 128 && strings.ContainsRune(letters+"_$", rune(u))
		goesOn := u < 128 && strings.ContainsRune(letters+digits+"_$", rune(u))
		checkName(t, []int{u}, starts)
		checkName(t, []int{u, 'a'}, starts)
		checkName(t, []int{'a', u}, goesOn)
		checkName(t, []int{'_', u, '$'}, goesOn)
	}
}

// TestNoUnitsInAName takes numbers that are a letter once their upper bits are
// cut off.
func TestNoUnitsInAName(t *testing.T) {
	for _, bits := range []uint{7, 8, 15, 16, 20, 31, 32, 48, 62, 63} {
		for _, u := range []int{'a' + 1<<bits, '0' + 1<<bits, 'a' - 1<<bits, '$' - 1<<bits} {
			for _, units := range [][]int{{u}, {'a', u}, {u, 'a'}, {'a', u, 'a'}} {
				checkName(t, units, false)
			}
		}
	}
	checkName(t, []int{-1}, false)
	checkName(t, []int{'a', -1 << 63}, false)
	checkName(t, []int{'a', 1<<63 - 1}, false)
}

func TestLongNames(t *testing.T) {
	name := unitsOf(strings.Repeat("aZ9_$", 100000))
	checkName(t, name, true)
	checkName(t, append(name, '-'), false)
}

var unsigned = []string{
	"Infinity", "NaN",
	"0x0", "0X0", "0x9", "0xabcdef", "0XABCDEF", "0x0123456789aBcDeF", "0x00", "0xe", "0xE1",
	"0", "1", "9", "10", "19", "1234567890", "100",
	"0.", "1.", "10.", "0.0", "0.5", "1.5", "12.340", "0.00", "5.0123456789",
	".0", ".5", ".00", ".0123456789",
	"0e0", "0e00", "0E1", "1e5", "1E5", "1e+5", "1e-5", "1E+05", "10e0123456789", "5.e1", "5.E-0", "1.5e3", "0.0e+0", ".5e1", ".5E-3",
}

var noNumbers = []string{
	"", ".", "..", "e", "E", "x", "e1", "E1", ".e1", ".E+1", "+", "-",
	"00", "01", "007", "00.5", "01e1", "09", "00x1",
	"0x", "0X", "0xg", "0x_", "0x.1", "0x1.", "0x1.5", "0x+1", "0x-1", "0x1p1", "0x1g", "x1", "1x1", "00x", "0x0x0", "0xX", "0b1", "0o7",
	"1e", "1E", "1e+", "1e-", "1.e", ".5e", "1e.5", "1e5.", "1e5.5", "1e5e5", "1e++5", "1e+-5", "1e5+", "1ee5", "1e0x1", "1eE1",
	"1.2.3", "1..2", "1..", "..1", ".1.", "1.5.", ".5.5",
	"1+", "1-", "1-2", "1+2", "1.+", "1.-5",
	"1a", "1_0", "1$", "1n", "1f", "1,", "1 ", " 1", "1\n", "\n1", "1\x00", "\x001", "1'", "1/", "1//",
	"infinity", "INFINITY", "Infinit", "Infinityy", "Infinity1", "Infinity.", "Infinitye1", "nan", "NAN", "Nan", "Na", "NaNs", "NaN1", "NaNNaN", "InfinityNaN", "1NaN", "NaN0x1", "0xInfinity", "0NaN",
	"null", "a", "_", "$",
	"\xff", "1\xff", "1\xc3", "\xc31", "١", "1١", "１", "−1", "1\u00a0",
}

func checkNumber(t *testing.T, text string, want bool) {
	t.Helper()
	if impl.IsNumber([]byte(text)) != want {
		t.Errorf("IsNumber(%.60q): %v", text, !want)
	}
}

func TestNumbers(t *testing.T) {
	checkNumber(t, "", false)
	if impl.IsNumber(nil) {
		t.Error("nothing is a number")
	}
	for _, text := range unsigned {
		for _, sign := range []string{"", "+", "-"} {
			checkNumber(t, sign+text, true)
		}
		for _, sign := range []string{"++", "--", "+-", "-+", " ", "+ ", "- ", "'", "0+", "e", "*", "\xff", "−"} {
			checkNumber(t, sign+text, false)
		}
	}
	for _, text := range noNumbers {
		for _, sign := range []string{"", "+", "-", "++", "+-"} {
			checkNumber(t, sign+text, false)
		}
	}
}

// numberForm is the form of a number, set down anew.
var numberForm = regexp.MustCompile(`^[+-]?(Infinity|NaN|0[xX][0-9A-Fa-f]+|(((0|[1-9][0-9]*)(\.[0-9]*)?|\.[0-9]+)([eE][+-]?[0-9]+)?))$`)

// eachText goes through all texts of up to most of the given pieces.
func eachText(pieces []string, most int, f func(string)) {
	f("")
	if most == 0 {
		return
	}
	for _, piece := range pieces {
		eachText(pieces, most-1, func(rest string) { f(piece + rest) })
	}
}

func TestShortNumbers(t *testing.T) {
	eachText(strings.Split("0 1 9 . + - e E x a", " "), 5, func(text string) {
		checkNumber(t, text, numberForm.MatchString(text))
	})
	eachText([]string{"Infinity", "NaN", "0x", "0X", "0", "1", "f", "F", "g", "+", "-", ".", "e", "_", " "}, 4, func(text string) {
		checkNumber(t, text, numberForm.MatchString(text))
	})
}

// TestOneByteOff puts every byte before, into and behind each number, and takes
// each of its bytes out.
func TestOneByteOff(t *testing.T) {
	for _, text := range unsigned {
		for i := 0; i <= len(text); i++ {
			for c := range 256 {
				other := text[:i] + string([]byte{byte(c)}) + text[i:]
				checkNumber(t, other, numberForm.MatchString(other))
			}
			if i < len(text) {
				other := text[:i] + text[i+1:]
				checkNumber(t, other, numberForm.MatchString(other))
			}
		}
	}
}

func TestLongNumbers(t *testing.T) {
	many := strings.Repeat("1234567890", 50000)
	for _, text := range []string{many, "0x" + many, "0." + many, "." + many, many + "." + many, "1e" + many, "-" + many + "." + many + "E-" + many} {
		checkNumber(t, text, true)
		checkNumber(t, text+"_", false)
		checkNumber(t, "0"+text, text[0] == '.')
	}
}

func TestNumbersAndNamesKeepArguments(t *testing.T) {
	for _, text := range append([]string{"-", "1e"}, unsigned...) {
		// What lies behind the end does not belong to the number.
		given, whole := roomy([]byte(text), '7')
		before := string(whole)
		if impl.IsNumber(given) != numberForm.MatchString(text) || string(whole) != before {
			t.Errorf("IsNumber(%q): bytes behind the end are read or written", text)
		}
	}
	given, whole := roomy([]int{'a', 'b'}, '-')
	if !impl.IsName(given) || whole[2] != '-' || whole[0] != 'a' {
		t.Errorf("IsName: units behind the end are read or written: %v", whole)
	}
}
