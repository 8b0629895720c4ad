package tests

import (
	"slices"
	"testing"

	"loop.example/s02863/impl"
)

func TestToUnits(t *testing.T) {
	cases := []struct{ points, units []int }{
		{nil, nil},
		{[]int{0, 'a', 0xe9, 0x20ac}, []int{0, 'a', 0xe9, 0x20ac}},
		{[]int{65535}, []int{65535}},
		{[]int{65536}, []int{0xd800, 0xdc00}},
		{[]int{65536 + 1023}, []int{0xd800, 0xdfff}},
		{[]int{65536 + 1024}, []int{0xd801, 0xdc00}},
		{[]int{0x1f600, 'a', 0x1f601}, []int{0xd83d, 0xde00, 'a', 0xd83d, 0xde01}},
		{[]int{1114111}, []int{0xdbff, 0xdfff}},
		{[]int{0xd7ff, 0xd800, 0xdbff, 0xdc00, 0xdfff, 0xe000}, []int{0xd7ff, 0xd800, 0xdbff, 0xdc00, 0xdfff, 0xe000}},
		{[]int{0xdc00, 0xd800}, []int{0xdc00, 0xd800}},
	}
	for _, c := range cases {
		units, code := impl.ToUnits(c.points)
		if code != impl.CodeOK || !slices.Equal(units, c.units) {
			t.Errorf("ToUnits(%x): %x, code %d; want %x", c.points, units, code, c.units)
		}
	}
}

func TestFromUnits(t *testing.T) {
	cases := []struct {
		name          string
		units, points []int
	}{
		{"nothing", nil, nil},
		{"no surrogates", []int{0, 'a', 0xd7ff, 0xe000, 65535}, []int{0, 'a', 0xd7ff, 0xe000, 65535}},
		{"a pair", []int{0xd83d, 0xde00}, []int{0x1f600}},
		{"the first pair", []int{0xd800, 0xdc00}, []int{65536}},
		{"the last pair", []int{0xdbff, 0xdfff}, []int{1114111}},
		{"least high, greatest low", []int{0xd800, 0xdfff}, []int{65536 + 1023}},
		{"greatest high, least low", []int{0xdbff, 0xdc00}, []int{0x10fc00}},
		{"two pairs", []int{0xd83d, 0xde00, 0xd83d, 0xde01}, []int{0x1f600, 0x1f601}},
		{"a lone high one", []int{'a', 0xd83d, 'b'}, []int{'a', 0xd83d, 'b'}},
		{"a lone low one", []int{'a', 0xde00, 'b'}, []int{'a', 0xde00, 'b'}},
		{"a low one before a high one", []int{0xde00, 0xd83d}, []int{0xde00, 0xd83d}},
		{"a low one before a pair", []int{0xde00, 0xd83d, 0xde00}, []int{0xde00, 0x1f600}},
		{"a low one behind a pair", []int{0xd83d, 0xde00, 0xde00}, []int{0x1f600, 0xde00}},
		{"a high one before a pair", []int{0xd83d, 0xd83d, 0xde00}, []int{0xd83d, 0x1f600}},
		{"two high ones before a pair", []int{0xd800, 0xdbff, 0xd83d, 0xde00}, []int{0xd800, 0xdbff, 0x1f600}},
		{"a high one at the end", []int{'a', 0xdbff}, []int{'a', 0xdbff}},
		{"a high one behind a pair, at the end", []int{0xd83d, 0xde00, 0xd83d}, []int{0x1f600, 0xd83d}},
		{"high and low one, not side by side", []int{0xd83d, 'a', 0xde00}, []int{0xd83d, 'a', 0xde00}},
		{"high one before what follows the low ones", []int{0xd83d, 0xe000}, []int{0xd83d, 0xe000}},
		{"what is before the high ones, and a low one", []int{0xd7ff, 0xdc00}, []int{0xd7ff, 0xdc00}},
	}
	for _, c := range cases {
		points, code := impl.FromUnits(c.units)
		if code != impl.CodeOK || !slices.Equal(points, c.points) {
			t.Errorf("%s: FromUnits(%x): %x, code %d; want %x", c.name, c.units, points, code, c.points)
		}
	}
}

func TestToUnitsOfNoPoints(t *testing.T) {
	for _, x := range []int{-1, -0xd800, -1 << 63, 1114112, 1 << 32, 1<<63 - 1} {
		for _, points := range [][]int{{x}, {'a', x}, {x, 'a'}, {0x1f600, x, 0x1f600}} {
			if units, code := impl.ToUnits(points); code != impl.CodeBad || len(units) != 0 {
				t.Errorf("ToUnits(%x): %x, code %d", points, units, code)
			}
		}
	}
}

func TestFromUnitsOfNoUnits(t *testing.T) {
	for _, x := range []int{-1, -0xd800, -1 << 63, 65536, 0x1f600, 1114111, 1 << 32, 1<<63 - 1} {
		for _, units := range [][]int{{x}, {'a', x}, {x, 'a'}, {0xd83d, x}, {x, 0xde00}, {0xd83d, 0xde00, x}} {
			if points, code := impl.FromUnits(units); code != impl.CodeBad || len(points) != 0 {
				t.Errorf("FromUnits(%x): %x, code %d", units, points, code)
			}
		}
	}
}

func TestEveryPointThroughUnits(t *testing.T) {
	var all []int
	for p := 0; p <= 1114111; p++ {
		if p < 0xd800 || p > 0xdfff {
			all = append(all, p)
		}
	}
	units, code := impl.ToUnits(all)
	if code != impl.CodeOK || len(units) != len(all)+1114112-65536 {
		t.Fatalf("ToUnits of all points: %d units, code %d", len(units), code)
	}
	again, code := impl.FromUnits(units)
	if code != impl.CodeOK || !slices.Equal(again, all) {
		t.Fatalf("FromUnits does not give all points back, code %d", code)
	}
}

func checkThroughPoints(t *testing.T, units []int) {
	t.Helper()
	points, code := impl.FromUnits(units)
	if code != impl.CodeOK {
		t.Fatalf("FromUnits(%x): code %d", units, code)
	}
	again, code := impl.ToUnits(points)
	if code != impl.CodeOK || !slices.Equal(again, units) {
		t.Fatalf("ToUnits(FromUnits(%x)): %x, code %d", units, again, code)
	}
}

func TestEveryUnitThroughPoints(t *testing.T) {
	for u := range 65536 {
		for _, units := range [][]int{{u}, {u, 0xdc00}, {0xd800, u}, {0xdbff, u, 0xdfff}} {
			checkThroughPoints(t, units)
		}
	}
}

// TestListsOfEdgeUnits takes every list of five of the units at which a rule
// begins or ends to hold.
func TestListsOfEdgeUnits(t *testing.T) {
	edges := []int{0, 'a', 0xd7ff, 0xd800, 0xdbff, 0xdc00, 0xdfff, 0xe000, 65535}
	u := make([]int, 5)
	for _, u[0] = range edges {
		for _, u[1] = range edges {
			for _, u[2] = range edges {
				for _, u[3] = range edges {
					for _, u[4] = range edges {
						checkThroughPoints(t, u)
					}
				}
			}
		}
	}
}
