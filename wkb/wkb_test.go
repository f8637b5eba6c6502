package wkb_test

import (
	"math"
	"slices"
	"testing"

	"hachure/api"
	"hachure/wkb"
)

// P14.1

// The chapter's example.
func TestExample(t *testing.T) {
	want := []byte{0, 0, 0, 0, 1, 0, 0, 0, 0, 0, 0, 0, 1, 0, 0, 0, 0, 0, 0, 0, 2}
	wantEncode(t, "a point 1 2", point(at(1, 2)), false, want)
	wantShape(t, "a point 1 2", want, point(at(1, 2)))
	if len(want) != 21 || wkb.Size(point(at(1, 2))) != 21 {
		t.Error("a point has not 21 bytes")
	}
}

// Bytes that are written out one by one, ahead of all that are put together by helpers.
func TestBytesOneByOne(t *testing.T) {
	wantEncode(t, "a point, little", point(at(1, -2)), true, []byte{1, 1, 0, 0, 0, 1, 0, 0, 0, 0, 0, 0, 0, 254, 255, 255, 255, 255, 255, 255, 255})
	wantEncode(t, "no point, big", point(), false, []byte{0, 0, 0, 0, 1, 128, 0, 0, 0, 0, 0, 0, 0, 128, 0, 0, 0, 0, 0, 0, 0})
	wantEncode(t, "no point, little", point(), true, []byte{1, 1, 0, 0, 0, 0, 0, 0, 0, 0, 0, 0, 128, 0, 0, 0, 0, 0, 0, 0, 128})
	wantEncode(t, "no line, big", line(), false, []byte{0, 0, 0, 0, 2, 0, 0, 0, 0})
	wantEncode(t, "no line, little", line(), true, []byte{1, 2, 0, 0, 0, 0, 0, 0, 0})
	wantEncode(t, "no rings, big", polygon(), false, []byte{0, 0, 0, 0, 3, 0, 0, 0, 0})
	wantEncode(t, "no parts, little", collection(), true, []byte{1, 7, 0, 0, 0, 0, 0, 0, 0})
	wantEncode(t, "a line, big", line(at(1, 256), at(-1, 3)), false, []byte{
		0, 0, 0, 0, 2, 0, 0, 0, 2,
		0, 0, 0, 0, 0, 0, 0, 1, 0, 0, 0, 0, 0, 0, 1, 0,
		255, 255, 255, 255, 255, 255, 255, 255, 0, 0, 0, 0, 0, 0, 0, 3,
	})
	wantEncode(t, "a polygon, little", polygon(api.Shape{XY: []api.Point{at(1, 2), at(3, 4), at(5, 6), at(1, 2)}}), true, []byte{
		1, 3, 0, 0, 0, 1, 0, 0, 0, 4, 0, 0, 0,
		1, 0, 0, 0, 0, 0, 0, 0, 2, 0, 0, 0, 0, 0, 0, 0,
		3, 0, 0, 0, 0, 0, 0, 0, 4, 0, 0, 0, 0, 0, 0, 0,
		5, 0, 0, 0, 0, 0, 0, 0, 6, 0, 0, 0, 0, 0, 0, 0,
		1, 0, 0, 0, 0, 0, 0, 0, 2, 0, 0, 0, 0, 0, 0, 0,
	})
	wantEncode(t, "a multipoint, little", of(aMultiPoint, point(at(7, 8)), point()), true, []byte{
		1, 4, 0, 0, 0, 2, 0, 0, 0,
		1, 1, 0, 0, 0, 7, 0, 0, 0, 0, 0, 0, 0, 8, 0, 0, 0, 0, 0, 0, 0,
		1, 1, 0, 0, 0, 0, 0, 0, 0, 0, 0, 0, 128, 0, 0, 0, 0, 0, 0, 0, 128,
	})
	wantEncode(t, "a collection in one, big", collection(collection(), line()), false, []byte{
		0, 0, 0, 0, 7, 0, 0, 0, 2, 0, 0, 0, 0, 7, 0, 0, 0, 0, 0, 0, 0, 0, 2, 0, 0, 0, 0,
	})
}

// ofAllKinds is shapes of each kind without points or parts, with one and with many.
func ofAllKinds() map[string]api.Shape {
	return map[string]api.Shape{
		"a point without points":             point(),
		"a point":                            point(at(12, -34)),
		"a point at the ends":                point(at(nowhere+1, math.MaxInt)),
		"a line without points":              line(),
		"a line of two points":               line(at(1, 2), at(3, 4)),
		"a line of two that are alike":       line(at(1, 2), at(1, 2)),
		"a line of many points":              line(row(300)...),
		"a polygon without rings":            polygon(),
		"a polygon of one ring":              polygon(ring(4)),
		"a polygon of many rings":            polygon(ring(4), ring(300), ring(5), ring(4)),
		"a multipoint without parts":         of(aMultiPoint),
		"a multipoint of one":                of(aMultiPoint, point(at(1, 2))),
		"a multipoint of an empty one":       of(aMultiPoint, point()),
		"a multipoint of many":               of(aMultiPoint, many(300, point(at(1, 2)))...),
		"a multiline without parts":          of(aMultiLine),
		"a multiline of one":                 of(aMultiLine, line(row(2)...)),
		"a multiline of an empty one":        of(aMultiLine, line()),
		"a multiline of many":                of(aMultiLine, slices.Concat(many(258, line(row(3)...)), many(2, line()))...),
		"a multipolygon without parts":       of(aMultiPolygon),
		"a multipolygon of one":              of(aMultiPolygon, polygon(ring(4))),
		"a multipolygon of an empty one":     of(aMultiPolygon, polygon()),
		"a multipolygon of many":             of(aMultiPolygon, many(40, polygon(ring(4), ring(5)))...),
		"a collection without parts":         collection(),
		"a collection of one":                collection(line(row(2)...)),
		"a collection of an empty one":       collection(collection()),
		"a collection of many":               collection(many(300, point(at(3, 4)))...),
		"a collection of each kind":          rich(),
		"a shape that is as deep as may be":  under(deepest-1, point(at(1, 2))),
		"a polygon as deep as may be":        under(deepest-1, polygon(ring(4), ring(5))),
		"a multipolygon as deep as may be":   under(deepest-2, of(aMultiPolygon, polygon(ring(4)))),
		"as many points as there may be":     line(row(mostPoints)...),
		"as many parts as there may be":      collection(many(mostParts, line())...),
		"as many empty points as may be":     of(aMultiPoint, many(mostParts, point())...),
		"as many points, parts and no more":  collection(append(many(mostParts-1, point()), line(row(mostPoints)...))...),
		"parts that are counted in one part": collection(of(aMultiPoint, many(mostParts-1, point())...)),
	}
}

func TestEncodeOfAllKinds(t *testing.T) {
	for what, s := range ofAllKinds() {
		for _, little := range orders() {
			wantEncode(t, what, s, little, spelt(s, always(little)))
		}
	}
}

// A list that is nil is one that is empty.
func TestEncodeOfEmptyLists(t *testing.T) {
	for kind := aPoint; kind <= aCollection; kind++ {
		for _, little := range orders() {
			want := wkb.Encode(api.Shape{Kind: kind}, little)
			if len(want) == 0 {
				t.Errorf("kind %d: nothing", kind)
			}
			wantEncode(t, "empty lists", api.Shape{Kind: kind, XY: []api.Point{}, Parts: []api.Shape{}}, little, want)
		}
	}
}

// mayNotBe is shapes of which shape's Check has an error.
func mayNotBe() map[string]api.Shape {
	return map[string]api.Shape{
		"no shape":                              {},
		"a ring":                                ring(4),
		"a kind above all":                      {Kind: 8},
		"a kind below all":                      {Kind: -1},
		"a kind at the end":                     {Kind: math.MaxInt},
		"a kind that is a point's in 32 bits":   {Kind: 1<<32 + 1, XY: row(1)},
		"a point of two points":                 point(row(2)...),
		"a point nowhere":                       point(at(nowhere, nowhere)),
		"a point with an X that is nowhere":     point(at(nowhere, 1)),
		"a point with a Y that is nowhere":      point(at(1, nowhere)),
		"a point that has parts":                {Kind: aPoint, Parts: []api.Shape{point()}},
		"a line of one point":                   line(row(1)...),
		"a line with a point nowhere":           line(at(1, 2), at(nowhere, nowhere)),
		"a line that has parts":                 {Kind: aLine, XY: row(2), Parts: []api.Shape{line()}},
		"a polygon with points":                 {Kind: aPolygon, XY: row(4)},
		"a polygon of a ring without points":    polygon(api.Shape{}),
		"a polygon of a ring of three":          polygon(ring(3)),
		"a polygon of a ring that is not round": polygon(api.Shape{XY: row(5)}),
		"a polygon of a ring that has parts":    polygon(api.Shape{XY: round(4), Parts: []api.Shape{ring(4)}}),
		"a polygon of a line":                   polygon(line(round(4)...)),
		"a multipoint of a line":                of(aMultiPoint, line()),
		"a multiline of a point":                of(aMultiLine, point()),
		"a multipolygon of a ring":              of(aMultiPolygon, ring(4)),
		"a multipoint with points":              {Kind: aMultiPoint, XY: row(2)},
		"a collection of a ring":                collection(ring(4)),
		"a collection with points":              {Kind: aCollection, XY: row(2)},
		"a collection of no kind":               collection(point(), of(9)),
		"a shape that is too deep":              under(deepest, point()),
		"a multipoint that is too deep":         under(deepest-1, of(aMultiPoint, point(at(1, 2)))),
		"a shape that is far too deep":          under(70000, point()),
		"too many points":                       line(row(mostPoints + 1)...),
		"too many points, in rings":             polygon(ring(2000), ring(2001)),
		"too many parts":                        collection(many(mostParts+1, point())...),
		"too many parts, in parts":              collection(many(2, of(aMultiPoint, many(500, point())...))...),
		"one of many that may not be":           collection(rich(), line(row(1)...), rich()),
	}
}

func TestEncodeOfWhatMayNotBe(t *testing.T) {
	for what, s := range mayNotBe() {
		wantNothing(t, what, s)
	}
}

// Shapes that lie in themselves have no end, and no bytes.
func TestEncodeOfWhatHasNoEnd(t *testing.T) {
	one := make([]api.Shape, 1)
	one[0] = api.Shape{Kind: aCollection, Parts: one}
	wantNothing(t, "in itself", one[0])
	two := make([]api.Shape, 2)
	two[0] = api.Shape{Kind: aCollection, Parts: two}
	two[1] = two[0]
	wantNothing(t, "twice in itself", two[0])
	rings := make([]api.Shape, 1)
	rings[0] = api.Shape{Kind: aRing, XY: round(4), Parts: rings}
	wantNothing(t, "a ring in itself", polygon(rings[0]))
}

func TestOrder(t *testing.T) {
	want := map[byte][2]bool{0: {false, true}, 1: {true, true}}
	for first := range 256 {
		for _, behind := range [][]byte{nil, {0}, {1}, {2}, {255, 0, 1}} {
			b := append([]byte{byte(first)}, behind...)
			if little, ok := wkb.Order(b); [2]bool{little, ok} != want[byte(first)] {
				t.Errorf("Order(%v): %v, %v", b, little, ok)
			}
		}
	}
}

func TestOrderOfNoBytes(t *testing.T) {
	for _, b := range [][]byte{nil, {}, guarded(nil), append([]byte{1}, 1)[:0]} {
		if little, ok := wkb.Order(b); little || ok {
			t.Errorf("Order of no bytes: %v, %v", little, ok)
		}
	}
}

// Order of what was encoded is the order that was asked.
func TestOrderOfEncode(t *testing.T) {
	for what, s := range ofAllKinds() {
		for _, asked := range orders() {
			if little, ok := wkb.Order(wkb.Encode(s, asked)); little != asked || !ok {
				t.Errorf("%s: Order: %v, %v, want %v", what, little, ok, asked)
			}
		}
	}
}
