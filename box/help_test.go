package box_test

import (
	"math"
	"slices"
	"testing"

	"hachure/api"
	"hachure/box"
)

// The ends of what an int holds, and the ordinate that no point has, which is one of them.
const (
	least   = math.MinInt
	most    = math.MaxInt
	nowhere = math.MinInt
)

// The kinds of shapes, by the documents' words.
const (
	aRing = iota
	aPoint
	aLine
	aPolygon
	aMultiPoint
	aMultiLine
	aMultiPolygon
	aCollection
)

// at is a point that is known by its place.
func at(x, y int) api.Point {
	return api.Point{X: x, Y: y}
}

// from is the box from one corner to the other, be it Good or not.
func from(lowX, lowY, highX, highY int) api.Box {
	return api.Box{Low: at(lowX, lowY), High: at(highX, highY)}
}

// none is the box of nothing, by the chapter's words.
func none() api.Box {
	return api.Box{None: true}
}

// some are boxes that are Good and have points.
func some() []api.Box {
	return []api.Box{
		{},
		from(0, 0, 5, 5), from(1, 2, 3, 5), from(-3, -4, -1, -2), from(-7, -8, 9, 10),
		from(4, 4, 4, 4), from(0, 3, 9, 3), from(3, 0, 3, 9),
		from(least, least, most, most), from(least, 0, most, 0), from(0, least, 0, most),
		from(least, least, least, least), from(most, most, most, most), from(least, most, least, most),
		from(most-1, least, most, least+1), from(-1, -1, 0, 0), from(0, 0, 1, 1),
	}
}

// unsound are boxes that are not Good.
func unsound() []api.Box {
	return []api.Box{
		// Nothing, with something beside it.
		{None: true, Low: at(1, 0)}, {None: true, Low: at(0, -1)}, {None: true, High: at(1, 0)}, {None: true, High: at(0, 1)},
		{None: true, Low: at(-5, -5), High: at(5, 5)}, {None: true, Low: at(2, 2), High: at(1, 1)},
		{None: true, Low: at(least, least), High: at(most, most)},
		// The corners are the wrong way round in X, in Y, in both.
		from(1, 0, 0, 0), from(3, 1, 1, 5), from(most, 0, least, 0), from(least+1, -9, least, 9), from(most, 7, most-1, 7),
		from(0, 1, 0, 0), from(1, 5, 3, 1), from(0, most, 0, least), from(-9, least+1, 9, least), from(7, most, 7, most-1),
		from(1, 1, 0, 0), from(5, 5, 0, 0), from(most, most, least, least), from(0, 0, least, -1),
	}
}

// pointless are all boxes that have no points.
func pointless() []api.Box {
	return append(unsound(), none())
}

func point(xy ...api.Point) api.Shape {
	return api.Shape{Kind: aPoint, XY: xy}
}

func line(xy ...api.Point) api.Shape {
	return api.Shape{Kind: aLine, XY: xy}
}

func ring(xy ...api.Point) api.Shape {
	return api.Shape{Kind: aRing, XY: xy}
}

func polygon(rings ...api.Shape) api.Shape {
	return of(aPolygon, rings...)
}

func collection(parts ...api.Shape) api.Shape {
	return of(aCollection, parts...)
}

// of is a shape of these parts.
func of(kind int, parts ...api.Shape) api.Shape {
	return api.Shape{Kind: kind, Parts: parts}
}

// under is s in n collections, one in the other.
func under(n int, s api.Shape) api.Shape {
	for range n {
		s = collection(s)
	}
	return s
}

// wantBox asks for just that box.
func wantBox(t *testing.T, what string, got, want api.Box) {
	t.Helper()
	if got != want {
		t.Errorf("%s: %v, want %v", what, got, want)
	}
}

// wantOf asks for the box of a shape.
func wantOf(t *testing.T, what string, s api.Shape, want api.Box) {
	t.Helper()
	wantBox(t, "Of "+what, box.Of(s), want)
}

// wantUnion asks for the box of two, either way round.
func wantUnion(t *testing.T, a, b, want api.Box) {
	t.Helper()
	if got := box.Union(a, b); got != want {
		t.Errorf("Union(%v, %v): %v, want %v", a, b, got, want)
	}
	if got := box.Union(b, a); got != want {
		t.Errorf("Union(%v, %v): %v, want %v", b, a, got, want)
	}
}

// wantMeets asks whether two meet, either way round.
func wantMeets(t *testing.T, a, b api.Box, want bool) {
	t.Helper()
	if got := box.Meets(a, b); got != want {
		t.Errorf("Meets(%v, %v): %v", a, b, got)
	}
	if got := box.Meets(b, a); got != want {
		t.Errorf("Meets(%v, %v): %v", b, a, got)
	}
}

// wantHolds asks whether the first one has the second one.
func wantHolds(t *testing.T, a, b api.Box, want bool) {
	t.Helper()
	if got := box.Holds(a, b); got != want {
		t.Errorf("Holds(%v, %v): %v", a, b, got)
	}
}

// wantEqual asks whether two are alike, either way round.
func wantEqual(t *testing.T, a, b api.Box, want bool) {
	t.Helper()
	if got := box.Equal(a, b); got != want {
		t.Errorf("Equal(%v, %v): %v", a, b, got)
	}
	if got := box.Equal(b, a); got != want {
		t.Errorf("Equal(%v, %v): %v", b, a, got)
	}
}

// wantArea asks for an area by its digits.
func wantArea(t *testing.T, b api.Box, want string) {
	t.Helper()
	if got := box.Area(b).Text(); got != want {
		t.Errorf("Area(%v): %s, want %s", b, got, want)
	}
}

// wantGrowth asks for a growth by its digits.
func wantGrowth(t *testing.T, a, b api.Box, want string) {
	t.Helper()
	if got := box.Growth(a, b).Text(); got != want {
		t.Errorf("Growth(%v, %v): %s, want %s", a, b, got, want)
	}
}

// wantWaste asks for a waste by its digits, with a minus ahead if it is below 0, either way round.
func wantWaste(t *testing.T, a, b api.Box, want string) {
	t.Helper()
	for _, pair := range [][2]api.Box{{a, b}, {b, a}} {
		u, below := box.Waste(pair[0], pair[1])
		got := u.Text()
		if below {
			got = "-" + got
		}
		if got != want {
			t.Errorf("Waste(%v, %v): %s, want %s", pair[0], pair[1], got, want)
		}
	}
}

// guarded is b with other bytes in the room behind its end.
func guarded(b []byte) []byte {
	return append(slices.Clone(b), slices.Repeat([]byte{201}, 40)...)[:len(b)]
}

// wantParse asks for the box of these bytes, which stay as they are.
func wantParse(t *testing.T, what string, b []byte, want api.Box, err api.Errno) {
	t.Helper()
	b = guarded(b)
	ahead := slices.Clone(b[:cap(b)])
	if got, e := box.Parse(b); got != want || e != err {
		t.Errorf("%s: Parse(%v): %v, %s, want %v, %s", what, b, got, e, want, err)
	}
	if !slices.Equal(b[:cap(b)], ahead) {
		t.Errorf("%s: the bytes have changed", what)
	}
}

// dice tells numbers that are the same in each run.
type dice struct{ seed uint64 }

func (d *dice) next() uint64 {
	d.seed ^= d.seed << 13
	d.seed ^= d.seed >> 7
	d.seed ^= d.seed << 17
	return d.seed
}

func (d *dice) under(n int) int {
	return int(d.next()>>33) % n
}

// thrown is a dice that was shaken, since seeds that are near tell the same at first.
func thrown(seed int) *dice {
	d := &dice{uint64(seed)*2654435761 + 1}
	for range 10 {
		d.next()
	}
	return d
}

// ordinate is a small one most often, so that boxes meet; seldom one at the ends, or any.
func (d *dice) ordinate() int {
	switch d.under(6) {
	case 0:
		return []int{least, least + 1, most - 1, most, 0, -1}[d.under(6)]
	case 1:
		return int(d.next())
	}
	return d.under(12) - 6
}

// box is one that is Good most often.
func (d *dice) box() api.Box {
	b := from(d.ordinate(), d.ordinate(), d.ordinate(), d.ordinate())
	switch d.under(10) {
	case 0:
		return none()
	case 1:
		b.None = true
		return b
	case 2:
		return b
	}
	return from(min(b.Low.X, b.High.X), min(b.Low.Y, b.High.Y), max(b.Low.X, b.High.X), max(b.Low.Y, b.High.Y))
}
