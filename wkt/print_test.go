package wkt_test

import (
	"math"
	"strings"
	"testing"

	"hachure/api"
	"hachure/wkt"
)

// printed are shapes, and their texts, spelt by hand.
func printed() map[string]api.Shape {
	u := whole
	square := api.Shape{Kind: aRing, XY: []api.Point{at(0, 0), at(4*u, 0), at(4*u, 4*u), at(0, 4*u), at(0, 0)}}
	hole := api.Shape{Kind: aRing, XY: []api.Point{at(u, u), at(2*u, u), at(u, 2*u), at(u, u)}}
	return map[string]api.Shape{
		"POINT (1.5 -2)":                      point(at(15000000, -20000000)),
		"POINT EMPTY":                         point(),
		"POINT (0 0)":                         point(at(0, 0)),
		"POINT (-0.0000001 0.1)":              point(at(-1, 1000000)),
		"LINESTRING EMPTY":                    line(),
		"LINESTRING (1 2, 3 -4)":              line(at(u, 2*u), at(3*u, -4*u)),
		"LINESTRING (0 0, 0 0, 1 0)":          line(at(0, 0), at(0, 0), at(u, 0)),
		"POLYGON EMPTY":                       polygon(),
		"POLYGON ((0 0, 4 0, 4 4, 0 4, 0 0))": polygon(square),
		"POLYGON ((0 0, 4 0, 4 4, 0 4, 0 0), (1 1, 2 1, 1 2, 1 1))": polygon(square, hole),
		"MULTIPOINT EMPTY":                                      of(aMultiPoint),
		"MULTIPOINT (EMPTY)":                                    of(aMultiPoint, point()),
		"MULTIPOINT ((1 2))":                                    of(aMultiPoint, point(at(u, 2*u))),
		"MULTIPOINT ((1 2), EMPTY, (-0.5 3))":                   of(aMultiPoint, point(at(u, 2*u)), point(), point(at(-u/2, 3*u))),
		"MULTILINESTRING EMPTY":                                 of(aMultiLine),
		"MULTILINESTRING (EMPTY, EMPTY)":                        of(aMultiLine, line(), line()),
		"MULTILINESTRING ((1 2, 3 4), EMPTY, (5 6, 7 8, 9 10))": of(aMultiLine, line(at(u, 2*u), at(3*u, 4*u)), line(), line(at(5*u, 6*u), at(7*u, 8*u), at(9*u, 10*u))),
		"MULTIPOLYGON EMPTY":                                    of(aMultiPolygon),
		"MULTIPOLYGON (EMPTY)":                                  of(aMultiPolygon, polygon()),
		"MULTIPOLYGON (((1 1, 2 1, 1 2, 1 1)))":                 of(aMultiPolygon, polygon(hole)),
		"MULTIPOLYGON (((0 0, 4 0, 4 4, 0 4, 0 0), (1 1, 2 1, 1 2, 1 1)), EMPTY)": of(aMultiPolygon, polygon(square, hole), polygon()),
		"GEOMETRYCOLLECTION EMPTY":                                        collection(),
		"GEOMETRYCOLLECTION (GEOMETRYCOLLECTION EMPTY)":                   collection(collection()),
		"GEOMETRYCOLLECTION (POINT (1 2), POINT EMPTY, LINESTRING EMPTY)": collection(point(at(u, 2*u)), point(), line()),
		"GEOMETRYCOLLECTION (MULTIPOINT ((1 1), EMPTY), GEOMETRYCOLLECTION (POLYGON EMPTY, MULTIPOLYGON (EMPTY)), MULTILINESTRING ((0 0, 1 1)))": collection(
			of(aMultiPoint, point(at(u, u)), point()), collection(polygon(), of(aMultiPolygon, polygon())), of(aMultiLine, line(at(0, 0), at(u, u)))),
	}
}

// P17.2, and the chapter's example.
func TestPrint(t *testing.T) {
	for want, s := range printed() {
		wantPrint(t, s, want)
		wantShape(t, want, s)
	}
	for _, s := range all() {
		wantPrint(t, s, spelt(s))
	}
}

// Lists that are empty are as those that are nil.
func TestPrintOfEmptyLists(t *testing.T) {
	for kind := aPoint; kind <= aCollection; kind++ {
		wantPrint(t, api.Shape{Kind: kind, XY: []api.Point{}, Parts: []api.Shape{}}, names()[kind]+" EMPTY")
	}
}

// As much as a shape may have is printed, also where the text is longer than those that are read.
func TestPrintOfMuch(t *testing.T) {
	for _, s := range []api.Shape{
		line(many(mostPoints, at(least, least))...), line(many(mostPoints, at(0, 0))...), of(aMultiPoint, many(mostParts, point(at(most, least)))...),
		collection(many(mostParts, collection())...), of(aMultiPolygon, many(mostParts/2, polygon(ring(4)))...), polygon(many(mostParts, ring(4))...),
	} {
		wantPrint(t, s, spelt(s))
	}
	long := wkt.Print(line(many(mostPoints, at(least, least))...))
	if want := len("LINESTRING ()") + mostPoints*45 - 2; len(long) != want {
		t.Errorf("%d bytes, want %d", len(long), want)
	}
	wantWrong(t, long, 0, api.ErrLong)
}

// What Check refuses has no text.
func TestPrintOfNone(t *testing.T) {
	for _, s := range unsound() {
		wantPrint(t, s, "")
		wantPrint(t, collection(point(), s), "")
	}
	for _, kind := range []int{aRing, -1, 8, math.MinInt, math.MaxInt} {
		wantPrint(t, of(kind), "")
		wantPrint(t, api.Shape{Kind: kind, XY: ring(4).XY}, "")
		wantPrint(t, collection(of(kind)), "")
	}
	open := ring(5)
	open.XY[4].X++
	for _, s := range []api.Shape{
		point(at(1, 2), at(3, 4)), point(at(1, nowhere)), point(at(nowhere, nowhere)), {Kind: aPoint, Parts: []api.Shape{point()}},
		line(at(1, 2)), {Kind: aLine, Parts: []api.Shape{line()}}, polygon(ring(3)), polygon(of(aRing)), polygon(open), polygon(line(row(4)...)), polygon(polygon()),
		{Kind: aMultiPoint, XY: row(1)}, of(aMultiPoint, line()), of(aMultiLine, point()), of(aMultiPolygon, ring(4)), of(aMultiPolygon, polygon(), line()),
		{Kind: aCollection, XY: row(1)}, collection(ring(4)), collection(collection(point(), of(9))),
		of(aMultiPoint, many(mostParts+1, point())...), collection(line(row(mostPoints)...), point(at(0, 0))), under(deepest, point()), under(100, point()),
	} {
		wantPrint(t, s, "")
	}
}

// A shape that lies in itself has none, either.
func TestPrintOfEndless(t *testing.T) {
	endless := make([]api.Shape, 2)
	endless[0] = collection(endless...)
	endless[1] = of(aMultiPoint, endless...)
	if got := wkt.Print(endless[0]); got != "" {
		t.Errorf("Print: %.100q", got)
	}
}

// What is told hangs on the shape alone: twice the same, whatever is done to it in between.
func TestPrintTwice(t *testing.T) {
	s := rich()
	first := wkt.Print(s)
	s.Parts[1].XY[0] = at(77, 88)
	second := wkt.Print(s)
	s.Parts[1].XY[0] = at(1, 2)
	if third := wkt.Print(s); first != third || first == second || !strings.Contains(second, "POINT (0.0000077 0.0000088)") {
		t.Errorf("%q, %q, %q", first, second, third)
	}
}
