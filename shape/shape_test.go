package shape_test

import (
	"math"
	"testing"

	"hachure/api"
	"hachure/shape"
)

// P13.1

// kinds is each kind by its number: what it is called, and what its parts are.
func kinds() map[int]struct {
	name string
	part int
} {
	return map[int]struct {
		name string
		part int
	}{
		0: {"", -1},
		1: {"POINT", -1},
		2: {"LINESTRING", -1},
		3: {"POLYGON", 0},
		4: {"MULTIPOINT", 1},
		5: {"MULTILINESTRING", 2},
		6: {"MULTIPOLYGON", 3},
		7: {"GEOMETRYCOLLECTION", -1},
	}
}

func TestConstants(t *testing.T) {
	for i, kind := range []int{shape.Ring, shape.Point, shape.Line, shape.Polygon, shape.MultiPoint, shape.MultiLine, shape.MultiPolygon, shape.Collection} {
		if kind != i {
			t.Errorf("the kind at place %d is %d", i, kind)
		}
	}
	if shape.MaxPoints != 4000 || shape.MaxParts != 1000 || shape.Nowhere != math.MinInt {
		t.Error("a limit is another one")
	}
}

func TestPartAndName(t *testing.T) {
	for kind, want := range kinds() {
		if got := shape.Part(kind); got != want.part {
			t.Errorf("Part(%d): %d, want %d", kind, got, want.part)
		}
		if got := shape.Name(kind); got != want.name {
			t.Errorf("Name(%d): %q, want %q", kind, got, want.name)
		}
	}
}

func TestPartAndNameOfOtherNumbers(t *testing.T) {
	for _, kind := range ends() {
		if _, ok := kinds()[kind]; ok {
			continue
		}
		if got := shape.Part(kind); got != -1 {
			t.Errorf("Part(%d): %d", kind, got)
		}
		if got := shape.Name(kind); got != "" {
			t.Errorf("Name(%d): %q", kind, got)
		}
	}
}

func TestKind(t *testing.T) {
	for kind := 1; kind <= 7; kind++ {
		if got, ok := shape.Kind(kinds()[kind].name); got != kind || !ok {
			t.Errorf("Kind(%q): %d, %v, want %d", kinds()[kind].name, got, ok, kind)
		}
	}
}

func TestKindOfNoName(t *testing.T) {
	for _, name := range []string{"", " ", "\x00", "point", "Point", "POINt", "pOINT", "linestring", "polygon", "multipoint", "multilinestring", "multipolygon", "geometrycollection", "POINT ", " POINT", "POIN", "POINTS", "POINTPOINT", "LINE", "RING", "LINEARRING", "MULTI", "MULTILINE", "COLLECTION", "GEOMETRY", "EMPTY", "POLYGON\x00", "1", "0", "ＰＯＩＮＴ", "\xff\xfe", "POINT\xff"} {
		if got, ok := shape.Kind(name); got != 0 || ok {
			t.Errorf("Kind(%q): %d, %v", name, got, ok)
		}
	}
}

// What each kind is: of shapes that are as told, and beside each those that differ in one thing.

func TestPointIs(t *testing.T) {
	wantCheck(t, "a point without points", point(), api.OK)
	wantCheck(t, "of one", point(at(1, 2)), api.OK)
	wantCheck(t, "of two", point(at(1, 2), at(3, 4)), api.ErrBad)
	wantCheck(t, "of two that are alike", point(at(1, 2), at(1, 2)), api.ErrBad)
	wantCheck(t, "of many", point(row(100)...), api.ErrBad)
}

func TestLineIs(t *testing.T) {
	wantCheck(t, "a line without points", line(), api.OK)
	wantCheck(t, "of one", line(at(1, 2)), api.ErrBad)
	wantCheck(t, "of two", line(at(1, 2), at(3, 4)), api.OK)
	wantCheck(t, "of two that are alike", line(at(1, 2), at(1, 2)), api.OK)
	wantCheck(t, "of three", line(row(3)...), api.OK)
	wantCheck(t, "of many", line(row(1000)...), api.OK)
}

func TestRingIs(t *testing.T) {
	a, b, c := at(0, 0), at(9, 0), at(0, 9)
	for what, r := range map[string]api.Shape{
		"no points":                              open(),
		"one":                                    open(a),
		"two that are alike":                     open(a, a),
		"three, as in the chapter's example":     open(a, b, c),
		"three, the first and the last alike":    open(a, b, a),
		"three that are alike":                   open(a, a, a),
		"four, the first and the last not alike": open(a, b, c, at(1, 1)),
		"four, the last with another X":          open(a, b, c, at(1, 0)),
		"four, the last with another Y":          open(a, b, c, at(0, 1)),
		"four, the last two alike":               open(a, b, c, c),
		"four, the first two alike":              open(a, a, b, c),
		"many, the first and the last not alike": open(row(50)...),
	} {
		wantCheck(t, "a polygon of a ring of "+what, polygon(r), api.ErrBad)
		wantCheck(t, "behind a good ring, of "+what, polygon(ring(4), r), api.ErrBad)
		wantCheck(t, "ahead of a good ring, of "+what, polygon(r, ring(4)), api.ErrBad)
	}
	wantCheck(t, "four, the first and the last alike", polygon(open(a, b, c, a)), api.OK)
	wantCheck(t, "four that are alike", polygon(open(a, a, a, a)), api.OK)
	wantCheck(t, "five", polygon(ring(5)), api.OK)
	wantCheck(t, "many", polygon(ring(1000)), api.OK)
}

func TestRingHasNoParts(t *testing.T) {
	for kind := -1; kind <= 8; kind++ {
		wantCheck(t, "a ring with a part", polygon(within(ring(4), of(kind))), api.ErrBad)
	}
	wantCheck(t, "a ring in a ring", polygon(within(ring(4), ring(4))), api.ErrBad)
	wantCheck(t, "a point in a ring", polygon(within(ring(4), point(at(1, 2)))), api.ErrBad)
}

func TestRingIsNoShapeByItself(t *testing.T) {
	wantCheck(t, "a zero shape", api.Shape{}, api.ErrBad)
	wantCheck(t, "a ring", ring(4), api.ErrBad)
	wantCheck(t, "a ring in a collection", collection(ring(4)), api.ErrBad)
	wantCheck(t, "behind others", collection(point(), polygon(ring(4)), ring(4)), api.ErrBad)
	wantCheck(t, "an empty one in a collection", collection(open()), api.ErrBad)
}

func TestPolygonIs(t *testing.T) {
	wantCheck(t, "a polygon without rings", polygon(), api.OK)
	wantCheck(t, "of one", polygon(ring(4)), api.OK)
	wantCheck(t, "of several", polygon(ring(4), ring(5), ring(4), ring(40)), api.OK)
	for kind := -1; kind <= 8; kind++ {
		if kind != shape.Ring {
			wantCheck(t, "of another kind", polygon(of(kind)), api.ErrBad)
			wantCheck(t, "of another kind, behind a ring", polygon(ring(4), of(kind)), api.ErrBad)
		}
	}
}

// some is a shape of that kind that may be, with something in it.
func some(kind int) api.Shape {
	switch kind {
	case shape.Ring:
		return ring(4)
	case shape.Point:
		return point(at(1, 2))
	case shape.Line:
		return line(row(2)...)
	case shape.Collection:
		return collection(point(at(3, 4)))
	}
	return of(kind, some(shape.Part(kind)))
}

func TestMultisAre(t *testing.T) {
	for kind := shape.MultiPoint; kind <= shape.MultiPolygon; kind++ {
		own := kind - 3
		wantCheck(t, "without parts", of(kind), api.OK)
		for part := shape.Ring; part <= shape.Collection; part++ {
			want := api.ErrBad
			if part == own {
				want = api.OK
			}
			wantCheck(t, shape.Name(kind)+" with a part", of(kind, some(part)), want)
			wantCheck(t, shape.Name(kind)+" with several", of(kind, some(own), of(own), some(part), some(own)), want)
			wantCheck(t, shape.Name(kind)+" with an empty one", of(kind, api.Shape{Kind: part}), want)
		}
	}
}

func TestCollectionIs(t *testing.T) {
	wantCheck(t, "without parts", collection(), api.OK)
	for part := shape.Point; part <= shape.Collection; part++ {
		wantCheck(t, "with a part", collection(some(part)), api.OK)
		wantCheck(t, "with an empty one", collection(of(part)), api.OK)
	}
	wantCheck(t, "with all of them", rich(), api.OK)
	wantCheck(t, "with all of them, twice", collection(rich(), rich()), api.OK)
}

func TestPointAndLineHaveNoParts(t *testing.T) {
	for _, s := range []api.Shape{point(), point(at(1, 2)), line(), line(row(3)...)} {
		wantCheck(t, "without parts", s, api.OK)
		for part := shape.Ring; part <= shape.Collection; part++ {
			wantCheck(t, "with a part", within(s, some(part)), api.ErrBad)
			wantCheck(t, "with an empty one", within(s, of(part)), api.ErrBad)
			wantCheck(t, "with a part, in a collection", collection(within(s, some(part))), api.ErrBad)
		}
	}
}

func TestOthersHaveNoPoints(t *testing.T) {
	for kind := shape.Polygon; kind <= shape.Collection; kind++ {
		for _, n := range []int{1, 2, 4, 9} {
			s := some(kind)
			s.XY = row(n)
			wantCheck(t, "with points", s, api.ErrBad)
			wantCheck(t, "with points, but no parts", api.Shape{Kind: kind, XY: row(n)}, api.ErrBad)
			wantCheck(t, "with the points of a ring", api.Shape{Kind: kind, XY: ring(4).XY}, api.ErrBad)
			wantCheck(t, "in a collection", collection(s), api.ErrBad)
		}
	}
}

func TestOrdinatesAreNotNowhere(t *testing.T) {
	for _, n := range []int{nowhere + 1, nowhere + 2, -math.MaxInt, -1, 0, 1, math.MaxInt - 1, math.MaxInt} {
		wantCheck(t, "beside it", point(at(n, 5)), api.OK)
		wantCheck(t, "beside it", point(at(5, n)), api.OK)
		wantCheck(t, "beside it", point(at(n, n)), api.OK)
	}
	for _, p := range []api.Point{at(nowhere, 5), at(5, nowhere), at(nowhere, nowhere)} {
		wantCheck(t, "in a point", point(p), api.ErrRange)
		wantCheck(t, "first in a line", line(p, at(1, 2)), api.ErrRange)
		wantCheck(t, "last in a line", line(at(1, 2), at(3, 4), p), api.ErrRange)
		wantCheck(t, "in a ring", polygon(ring(4), open(at(0, 0), at(1, 0), p, at(0, 0))), api.ErrRange)
		wantCheck(t, "at both ends of a ring", polygon(open(p, at(1, 0), at(2, 0), p)), api.ErrRange)
		for kind := shape.MultiPoint; kind <= shape.MultiPolygon; kind++ {
			s := some(kind - 3)
			if kind == shape.MultiPolygon {
				s.Parts[0].XY[1] = p
			} else {
				s.XY[0] = p
			}
			wantCheck(t, "in a part of "+shape.Name(kind), of(kind, some(kind-3), s), api.ErrRange)
		}
		wantCheck(t, "deep", under(deepest-1, point(p)), api.ErrRange)
		wantCheck(t, "behind all", collection(rich(), point(p)), api.ErrRange)
	}
}
