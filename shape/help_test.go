package shape_test

import (
	"fmt"
	"math"
	"slices"
	"testing"

	"hachure/api"
	"hachure/shape"
)

// Numbers by the document's words.
const (
	deepest    = 16
	mostPoints = 4000
	mostParts  = 1000
	nowhere    = math.MinInt
)

// at is a point that is known by its place.
func at(x, y int) api.Point {
	return api.Point{X: x, Y: y}
}

// row is n points, each another one.
func row(n int) []api.Point {
	var l []api.Point
	for i := range n {
		l = append(l, at(i, 10*i+1))
	}
	return l
}

func point(xy ...api.Point) api.Shape {
	return api.Shape{Kind: shape.Point, XY: xy}
}

func line(xy ...api.Point) api.Shape {
	return api.Shape{Kind: shape.Line, XY: xy}
}

// open is a ring of just these points.
func open(xy ...api.Point) api.Shape {
	return api.Shape{Kind: shape.Ring, XY: xy}
}

// ring is one of n points, the last of which is the first.
func ring(n int) api.Shape {
	l := row(n)
	l[n-1] = l[0]
	return open(l...)
}

func polygon(rings ...api.Shape) api.Shape {
	return of(shape.Polygon, rings...)
}

func collection(parts ...api.Shape) api.Shape {
	return of(shape.Collection, parts...)
}

// of is a shape of these parts.
func of(kind int, parts ...api.Shape) api.Shape {
	return api.Shape{Kind: kind, Parts: parts}
}

// within is a shape that has these as parts, beside what it has.
func within(s api.Shape, parts ...api.Shape) api.Shape {
	s.Parts = slices.Concat(s.Parts, parts)
	return s
}

// under is s in n collections, one in the other.
func under(n int, s api.Shape) api.Shape {
	for range n {
		s = collection(s)
	}
	return s
}

// many is n shapes that are alike.
func many(n int, s api.Shape) []api.Shape {
	return slices.Repeat([]api.Shape{s}, n)
}

// rich is a shape that may be, of all kinds.
func rich() api.Shape {
	return collection(
		point(), point(at(1, 2)), line(), line(at(3, 4), at(5, 6)), line(row(7)...),
		polygon(), polygon(ring(4)), polygon(ring(5), ring(9)),
		of(shape.MultiPoint), of(shape.MultiPoint, point(), point(at(-1, -2))),
		of(shape.MultiLine), of(shape.MultiLine, line(), line(row(2)...)),
		of(shape.MultiPolygon), of(shape.MultiPolygon, polygon(), polygon(ring(6))),
		collection(), collection(collection(point(at(math.MaxInt, math.MinInt+1)))),
	)
}

// told is what an iterator of points tells.
func told(s api.Shape) []api.Point {
	return slices.Collect(shape.All(s))
}

// dice tells numbers that are the same in each run.
type dice struct{ seed uint64 }

func (d *dice) under(n int) int {
	d.seed ^= d.seed << 13
	d.seed ^= d.seed >> 7
	d.seed ^= d.seed << 17
	return int(d.seed>>33) % n
}

// thrown is a dice that was shaken, since seeds that are near tell the same at first.
func thrown(seed int) *dice {
	d := &dice{uint64(seed)*2654435761 + 1}
	for range 10 {
		d.under(2)
	}
	return d
}

// text is all of a shape, so that two are alike just if their texts are.
func text(s api.Shape) string {
	return fmt.Sprint(s)
}

// roomy is a shape like s whose lists have room behind their ends, with points and parts in it.
func roomy(s api.Shape) api.Shape {
	xy := append(slices.Clone(s.XY), at(77, 78), at(79, 80))
	parts := make([]api.Shape, 0, len(s.Parts)+2)
	for _, p := range s.Parts {
		parts = append(parts, roomy(p))
	}
	parts = append(parts, point(at(81, 82)), polygon(ring(4)))
	return api.Shape{Kind: s.Kind, XY: xy[:len(s.XY)], Parts: parts[:len(s.Parts)]}
}

// allOf is the text of a shape and of the room behind its lists' ends.
func allOf(s api.Shape) string {
	out := fmt.Sprint(s.Kind, s.XY[:cap(s.XY)])
	for _, p := range s.Parts[:cap(s.Parts)] {
		out += "(" + allOf(p) + ")"
	}
	return out
}

// spoil changes all that a shape's lists have, the room behind their ends too.
func spoil(s api.Shape) {
	xy := s.XY[:cap(s.XY)]
	for i := range xy {
		xy[i] = at(-7777, -8888)
	}
	parts := s.Parts[:cap(s.Parts)]
	for i := range parts {
		spoil(parts[i])
		parts[i] = point(at(-9999, -1111))
	}
}

// wantUnchanged does something that changes neither a shape nor what lies behind its lists' ends.
func wantUnchanged(t *testing.T, what string, s api.Shape, done func(s api.Shape)) {
	t.Helper()
	s = roomy(s)
	ahead := allOf(s)
	done(s)
	if allOf(s) != ahead {
		t.Errorf("%s: the shape has changed", what)
	}
}

func wantCheck(t *testing.T, what string, s api.Shape, want api.Errno) {
	t.Helper()
	if got := shape.Check(s); got != want {
		t.Errorf("%s: Check: %s, want %s", what, got, want)
	}
}

// wantCounts asks for what Points, Parts and Depth tell.
func wantCounts(t *testing.T, what string, s api.Shape, points, parts, depth int) {
	t.Helper()
	if n := shape.Points(s); n != points {
		t.Errorf("%s: Points: %d, want %d", what, n, points)
	}
	if n := shape.Parts(s); n != parts {
		t.Errorf("%s: Parts: %d, want %d", what, n, parts)
	}
	if n := shape.Depth(s); n != depth {
		t.Errorf("%s: Depth: %d, want %d", what, n, depth)
	}
}

// wantEqual asks whether two are alike, either way round.
func wantEqual(t *testing.T, what string, a, b api.Shape, want bool) {
	t.Helper()
	if shape.Equal(a, b) != want || shape.Equal(b, a) != want {
		t.Errorf("%s: Equal: %v, %v, want %v", what, shape.Equal(a, b), shape.Equal(b, a), want)
	}
}

// wantAll asks for just these points.
func wantAll(t *testing.T, what string, s api.Shape, want ...api.Point) {
	t.Helper()
	if got := told(s); !slices.Equal(got, want) {
		t.Errorf("%s: All: %v, want %v", what, got, want)
	}
}

// ends are numbers at the ends of all, and around the kinds.
func ends() []int {
	return []int{math.MinInt, math.MinInt + 1, -8, -2, -1, 0, 1, 2, 3, 4, 5, 6, 7, 8, 9, 15, 255, 256, 257, 1 << 32, 1<<32 + 3, math.MaxInt - 1, math.MaxInt}
}
