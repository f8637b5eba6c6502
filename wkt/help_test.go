package wkt_test

import (
	"fmt"
	"math"
	"math/big"
	"slices"
	"strings"
	"testing"

	"hachure/api"
	"hachure/wkt"
)

// Numbers by the documents' words.
const (
	deepest    = 16
	mostPoints = 4000
	mostParts  = 1000
	mostBytes  = 20000
	whole      = 10000000
	nowhere    = math.MinInt
	least      = math.MinInt + 1
	most       = math.MaxInt
)

// The kinds, by the documents' words.
const (
	aRing = iota
	aPoint
	aLine
	aPolygon
	aMultiPoint
	aMultiLine
	aMultiPolygon
	aCollection
)

// names are what the kinds are called; a ring is called nothing.
func names() []string {
	return []string{"", "POINT", "LINESTRING", "POLYGON", "MULTIPOINT", "MULTILINESTRING", "MULTIPOLYGON", "GEOMETRYCOLLECTION"}
}

// at is a point that is known by its place.
func at(x, y int) api.Point {
	return api.Point{X: x, Y: y}
}

// row is n points, each another one.
func row(n int) []api.Point {
	var l []api.Point
	for i := range n {
		l = append(l, at((i+1)*whole, (-10*i-1)*1000))
	}
	return l
}

func point(xy ...api.Point) api.Shape {
	return api.Shape{Kind: aPoint, XY: xy}
}

func line(xy ...api.Point) api.Shape {
	return api.Shape{Kind: aLine, XY: xy}
}

// ring is n points, the last of which is the first.
func ring(n int) api.Shape {
	l := row(n)
	l[n-1] = l[0]
	return api.Shape{Kind: aRing, XY: l}
}

func polygon(rings ...api.Shape) api.Shape {
	return of(aPolygon, rings...)
}

func collection(parts ...api.Shape) api.Shape {
	return of(aCollection, parts...)
}

// of is a shape of these parts.
func of(kind int, parts ...api.Shape) api.Shape {
	return api.Shape{Kind: kind, Parts: parts}
}

// under is s in n collections, one in the other.
func under(n int, s api.Shape) api.Shape {
	for range n {
		s = collection(s)
	}
	return s
}

// many is n things that are alike.
func many[T any](n int, s T) []T {
	return slices.Repeat([]T{s}, n)
}

// rich is a shape of all kinds.
func rich() api.Shape {
	return collection(
		point(), point(at(1, 2)), line(), line(at(3, 4), at(5, 6)), polygon(), polygon(ring(5), ring(9)),
		of(aMultiPoint), of(aMultiPoint, point(), point(at(-1, -2))), of(aMultiLine), of(aMultiLine, line(), line(row(2)...)),
		of(aMultiPolygon), of(aMultiPolygon, polygon(), polygon(ring(6))), collection(), collection(collection(point(at(least, most)))),
	)
}

// all are shapes that may be, of each kind, with points and without.
func all() []api.Shape {
	return []api.Shape{
		point(), point(at(whole, 2*whole)), point(at(0, 0)), point(at(-1, 1)), point(at(least, most)),
		line(), line(at(whole, 5*whole), at(3*whole, 2)), line(row(9)...),
		polygon(), polygon(ring(4)), polygon(ring(5), ring(9)),
		of(aMultiPoint), of(aMultiPoint, point()), of(aMultiPoint, point(at(7, -8))), of(aMultiPoint, point(), point(at(-whole, 260)), point()),
		of(aMultiLine), of(aMultiLine, line()), of(aMultiLine, line(), line(row(3)...)),
		of(aMultiPolygon), of(aMultiPolygon, polygon()), of(aMultiPolygon, polygon(), polygon(ring(6)), polygon(ring(4), ring(4))),
		collection(), collection(collection()), collection(point(at(5, 6))), collection(line(), collection(), collection(point(), of(aMultiPoint, point(at(7, 8))))),
		rich(), under(deepest-1, line(row(3)...)), under(deepest-1, polygon(ring(4))), under(deepest-2, of(aMultiPoint, point(at(1, 1)))),
	}
}

// unsound are shapes that Check refuses, each for another error.
func unsound() map[api.Errno]api.Shape {
	return map[api.Errno]api.Shape{
		api.ErrDeep:  under(deepest, point(at(1, 2))),
		api.ErrLong:  line(row(mostPoints + 1)...),
		api.ErrBad:   line(at(1, 2)),
		api.ErrRange: line(at(1, 2), at(nowhere, 3)),
	}
}

// Texts, spelt by the chapter's words.

// digits is an ordinate, as the fraction that it is.
func digits(n int) string {
	r := new(big.Rat).SetFrac64(int64(n), whole)
	return strings.TrimSuffix(strings.TrimRight(r.FloatString(7), "0"), ".")
}

// spelt is the text of s.
func spelt(s api.Shape) string {
	return names()[s.Kind] + " " + inner(s)
}

// inner is the text of s without its name.
func inner(s api.Shape) string {
	switch {
	case len(s.XY)+len(s.Parts) == 0:
		return "EMPTY"
	case len(s.XY) > 0:
		out := ""
		for _, p := range s.XY {
			out += fmt.Sprintf(", %s %s", digits(p.X), digits(p.Y))
		}
		return "(" + out[2:] + ")"
	}
	out := ""
	for _, p := range s.Parts {
		if s.Kind == aCollection {
			out += ", " + spelt(p)
		} else {
			out += ", " + inner(p)
		}
	}
	return "(" + out[2:] + ")"
}

// in is a text in n collections, one in the other.
func in(n int, text string) string {
	return strings.Repeat("GEOMETRYCOLLECTION (", n) + text + strings.Repeat(")", n)
}

// text is all of a thing, so that two are alike just if their texts are.
func text(s any) string {
	return fmt.Sprint(s)
}

// zero says whether a shape is the zero value.
func zero(s api.Shape) bool {
	return s.Kind == 0 && len(s.XY) == 0 && len(s.Parts) == 0
}

// What is wanted.

// wantShape asks for the shape that a text says.
func wantShape(t *testing.T, what string, want api.Shape) {
	t.Helper()
	if s, n, err := wkt.Parse(what); err != api.OK || n != 0 || text(s) != text(want) {
		t.Errorf("%.300q: Parse: %.300s, %d, %s, want %.300s", what, text(s), n, err, text(want))
	}
}

// wantWrong asks for that error at that place, and for nothing beside it.
func wantWrong(t *testing.T, what string, place int, want api.Errno) {
	t.Helper()
	if s, n, err := wkt.Parse(what); err != want || n != place || !zero(s) {
		t.Errorf("%.300q: Parse: %.300s, %d, %s, want %d, %s", what, text(s), n, err, place, want)
	}
}

// wantPrint asks for that text.
func wantPrint(t *testing.T, s api.Shape, want string) {
	t.Helper()
	ahead := text(s)
	if got := wkt.Print(s); got != want {
		t.Errorf("%.300s: Print: %.300q, want %.300q", ahead, got, want)
	}
	if text(s) != ahead {
		t.Errorf("%.300s: the shape has changed", ahead)
	}
}

// wantTokens asks for these pieces, which begin there.
func wantTokens(t *testing.T, what string, pieces []string, begins []int) {
	t.Helper()
	if p, b, ok := wkt.Tokens(what); !ok || !slices.Equal(p, pieces) || !slices.Equal(b, begins) {
		t.Errorf("%.300q: Tokens: %.300q, %.300s, %v, want %.300q, %.300s", what, p, text(b), ok, pieces, text(begins))
	}
}

// wantNoTokens asks for nothing.
func wantNoTokens(t *testing.T, what string) {
	t.Helper()
	if p, b, ok := wkt.Tokens(what); ok || len(p) != 0 || len(b) != 0 {
		t.Errorf("%.300q: Tokens: %.300q, %.300s, %v", what, p, text(b), ok)
	}
}

// wantNumber asks for the ordinate that a text says.
func wantNumber(t *testing.T, what string, want int) {
	t.Helper()
	if n, ok := wkt.Number(what); !ok || n != want {
		t.Errorf("Number(%q): %d, %v, want %d", what, n, ok, want)
	}
}

// wantNoNumber asks for none.
func wantNoNumber(t *testing.T, what string) {
	t.Helper()
	if n, ok := wkt.Number(what); ok || n != 0 {
		t.Errorf("Number(%q): %d, %v", what, n, ok)
	}
}

// dice tells numbers that are the same in each run.
type dice struct{ seed uint64 }

func (d *dice) under(n int) int {
	d.seed ^= d.seed << 13
	d.seed ^= d.seed >> 7
	d.seed ^= d.seed << 17
	return int(d.seed>>33) % n
}

// thrown is a dice that was shaken, since seeds that are near tell the same at first.
func thrown(seed int) *dice {
	d := &dice{uint64(seed)*2654435761 + 1}
	for range 10 {
		d.under(2)
	}
	return d
}

// one is one of several.
func one[T any](d *dice, l ...T) T {
	return l[d.under(len(l))]
}

// ordinate is one that a point may have: small ones, whole ones, any, and those at the ends.
func (d *dice) ordinate() int {
	switch d.under(5) {
	case 0:
		return d.under(2000) - 1000
	case 1:
		return (d.under(2000) - 1000) * whole
	case 2:
		return (d.under(2000000) - 1000000) * one(d, 10, 100, 1000, 10000, 100000, 1000000)
	case 3:
		return one(d, least, least+1, most, most-1, 0, 1, -1, whole, -whole, whole-1, 1-whole)
	}
	return d.under(1<<31)<<32 - d.under(1<<31)<<32 + d.under(1<<31)
}

func (d *dice) points(n int) []api.Point {
	var l []api.Point
	for range n {
		l = append(l, at(d.ordinate(), d.ordinate()))
	}
	return l
}

// shape is one of that kind that may be.
func (d *dice) shape(kind, size int) api.Shape {
	s := api.Shape{Kind: kind}
	switch kind {
	case aRing:
		s.XY = d.points(3 + d.under(4))
		s.XY = append(s.XY, s.XY[0])
	case aPoint:
		s.XY = d.points(d.under(2))
	case aLine:
		s.XY = d.points(one(d, 0, 2, 3, 9))
	default:
		for size > 1 && d.under(6) > 0 {
			part, own := 1+d.under(size-1), kind-aMultiPoint+aPoint
			if kind == aPolygon {
				own = aRing
			}
			if kind == aCollection {
				own = 1 + d.under(7)
			}
			s.Parts = append(s.Parts, d.shape(own, part))
			size -= part
		}
	}
	return s
}
