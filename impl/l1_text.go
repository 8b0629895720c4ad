package impl

import "iter"

const (
	CodeOK     = 0
	CodeBad    = 1
	CodeText   = 2
	CodeSyntax = 3
	CodeLimit  = 4
	CodeNone   = 5
	CodeFault  = 6
)

const (
	MaxInput = 4000
	MaxTexts = 100000
)

const (
	firstHigh = 0xd800
	firstLow  = 0xdc00
	lastLow   = 0xdfff
	firstPair = 0x10000
	lastPoint = 0x10ffff
	pairStep  = 1024
)

// noPoint stands where no whole form can be read; no code point is negative.
const noPoint rune = -1

// formEnds[n] is the first number too great for the payload of n bytes. So a
// form of n bytes is too long for a point below formEnds[n-1].
var formEnds = [5]rune{0, 0x80, 0x800, 0x10000, 0x200000}

func DecodeText(b []byte) ([]int, int, int) {
	points := make([]int, 0, len(b))
	for at, point := range pointsOf(b) {
		if point == noPoint {
			return nil, CodeText, at
		}
		points = append(points, int(point))
	}
	return points, CodeOK, 0
}

func EncodeText(points []int) ([]byte, int) {
	b := make([]byte, 0, len(points))
	for _, p := range points {
		if !hasForm(p) {
			return nil, CodeBad
		}
		b = appendForm(b, rune(p))
	}
	return b, CodeOK
}

func ToUnits(points []int) ([]int, int) {
	units := make([]int, 0, len(points))
	for _, p := range points {
		if !isPoint(p) {
			return nil, CodeBad
		}
		units = appendUnits(units, p)
	}
	return units, CodeOK
}

func FromUnits(units []int) ([]int, int) {
	points := make([]int, 0, len(units))
	for i := 0; i < len(units); i++ {
		p := units[i]
		if !isUnit(p) {
			return nil, CodeBad
		}
		if isHigh(p) && i+1 < len(units) && isLow(units[i+1]) {
			i++
			p = firstPair + (p-firstHigh)*pairStep + (units[i] - firstLow)
		}
		points = append(points, p)
	}
	return points, CodeOK
}

func TextWidth(b []byte) int {
	width := 0
	for _, point := range pointsOf(b) {
		if point == noPoint {
			return -1
		}
		width++
	}
	return width
}

// pointsOf goes through the code points of b with their offsets. Where no whole
// form stands it gives noPoint and ends, since nothing behind can be trusted.
func pointsOf(b []byte) iter.Seq2[int, rune] {
	return func(yield func(int, rune) bool) {
		for at := 0; at < len(b); {
			point, size := firstPoint(b[at:])
			if !yield(at, point) || point == noPoint {
				return
			}
			at += size
		}
	}
}

// form is a UTF-8 form of which the first size bytes are read.
type form struct {
	point rune
	size  int
	cut   bool
}

func (f *form) readOn(b []byte) {
	if f.size >= len(b) || b[f.size]&0xc0 != 0x80 {
		f.cut = true
		return
	}
	f.point = f.point<<6 | rune(b[f.size]&0x3f)
	f.size++
}

// firstPoint answers the code point whose form b begins with, and the number of
// its bytes; noPoint where there is none. b must not be empty.
func firstPoint(b []byte) (rune, int) {
	f := form{point: rune(b[0]), size: 1}
	switch first := b[0]; {
	case first&0xf8 == 0xf0:
		f.readOn(b)
		fallthrough
	case first&0xf0 == 0xe0:
		f.readOn(b)
		fallthrough
	case first&0xe0 == 0xc0:
		f.readOn(b)
	case first >= 0x80:
		f.cut = true
	}
	if f.cut {
		return noPoint, 0
	}
	// The first byte was taken whole, with the mark above its payload.
	point := f.point & (formEnds[f.size] - 1)
	if point < formEnds[f.size-1] || !hasForm(int(point)) {
		return noPoint, 0
	}
	return point, f.size
}

func appendForm(b []byte, point rune) []byte {
	switch {
	case point < formEnds[1]:
		return append(b, byte(point))
	case point < formEnds[2]:
		return append(b, 0xc0|byte(point>>6), onByte(point))
	case point < formEnds[3]:
		return append(b, 0xe0|byte(point>>12), onByte(point>>6), onByte(point))
	}
	return append(b, 0xf0|byte(point>>18), onByte(point>>12), onByte(point>>6), onByte(point))
}

func onByte(point rune) byte {
	return 0x80 | byte(point&0x3f)
}

func appendUnits(units []int, p int) []int {
	if p < firstPair {
		return append(units, p)
	}
	return append(units, firstHigh+(p-firstPair)/pairStep, firstLow+(p-firstPair)%pairStep)
}

func isPoint(p int) bool {
	return p >= 0 && p <= lastPoint
}

func hasForm(p int) bool {
	return isPoint(p) && !isHigh(p) && !isLow(p)
}

func isUnit(u int) bool {
	return u >= 0 && u < firstPair
}

func isHigh(p int) bool {
	return p >= firstHigh && p < firstLow
}

func isLow(p int) bool {
	return p >= firstLow && p <= lastLow
}
