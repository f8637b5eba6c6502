package shape_test

import (
	"testing"

	"hachure/api"
	"hachure/shape"
)

// P13.3

// The chapter's example.
func TestExample(t *testing.T) {
	wantCheck(t, "a polygon of a ring of three points", polygon(open(at(0, 0), at(1, 0), at(0, 0))), api.ErrBad)
}

func TestCheckOfDepth(t *testing.T) {
	for n := range 40 {
		want := api.OK
		if n+1 > deepest {
			want = api.ErrDeep
		}
		for what, s := range map[string]api.Shape{"an empty point": point(), "a line": line(row(2)...), "a polygon": polygon(ring(4), ring(5)), "a collection": collection()} {
			wantCheck(t, what+" in collections", under(n, s), want)
			wantCheck(t, what+" in collections, behind others", within(under(n, s), many(min(n, 1), rich())...), want)
		}
		if n+2 > deepest {
			want = api.ErrDeep
		}
		wantCheck(t, "a multipolygon in collections", under(n, of(shape.MultiPolygon, polygon(ring(4)))), want)
	}
}

// What lies in a ring may not be; but it is too deep, ahead of that.
func TestCheckOfDepthInRings(t *testing.T) {
	for n := range 20 {
		want := api.ErrBad
		if n+2 > deepest {
			want = api.ErrDeep
		}
		wantCheck(t, "a point in a ring, in collections", under(n, polygon(dotted())), want)
		wantCheck(t, "a ring in a ring, in collections", under(n, polygon(within(ring(4), ring(4)))), want)
		wantCheck(t, "a ring in collections", under(n+1, ring(4)), want)
	}
}

func TestCheckOfPoints(t *testing.T) {
	for n, want := range map[int]api.Errno{3999: api.OK, 4000: api.OK, 4001: api.ErrLong, 4002: api.ErrLong, 8000: api.ErrLong, 100000: api.ErrLong} {
		half := n / 2
		for what, s := range map[string]api.Shape{
			"in a line":      line(row(n)...),
			"in a ring":      polygon(ring(n)),
			"in two rings":   polygon(ring(half), ring(n-half)),
			"in a multiline": of(shape.MultiLine, line(row(half)...), line(), line(row(n-half)...)),
			"deep":           under(deepest-1, line(row(n)...)),
			"here and deep":  collection(line(row(half)...), under(deepest-2, line(row(n-half)...))),
		} {
			wantCheck(t, what, s, want)
		}
	}
}

func TestCheckOfParts(t *testing.T) {
	for n, want := range map[int]api.Errno{999: api.OK, 1000: api.OK, 1001: api.ErrLong, 1002: api.ErrLong, 2000: api.ErrLong, 100000: api.ErrLong} {
		half := n / 2
		for what, s := range map[string]api.Shape{
			"of a collection": collection(many(n, point(at(1, 2)))...),
			"without points":  collection(many(n, collection())...),
			"of a multipoint": of(shape.MultiPoint, many(n, point())...),
			"of two":          collection(collection(many(half-1, point())...), of(shape.MultiLine, many(n-half-1, line())...)),
			"deep":            under(deepest-2, collection(many(n-deepest+2, point())...)),
		} {
			wantCheck(t, what, s, want)
		}
	}
	wantCheck(t, "1000 rings, of 4000 points", polygon(many(1000, ring(4))...), api.OK)
	wantCheck(t, "1001 rings, of four points and more", polygon(many(1001, ring(4))...), api.ErrLong)
	wantCheck(t, "1001 rings without points", polygon(many(1001, open())...), api.ErrLong)
	wantCheck(t, "1000 parts, of 4001 points", collection(append(many(999, point()), line(row(4001)...))...), api.ErrLong)
}

// The first of these, of the whole: whatever the order in which the parts have them.
func TestCheckTellsTheFirstError(t *testing.T) {
	wrongs := []struct {
		s   api.Shape
		err api.Errno
	}{
		{under(deepest, point()), api.ErrDeep},
		{line(row(4001)...), api.ErrLong},
		{collection(many(1001, point())...), api.ErrLong},
		{line(at(1, 2)), api.ErrBad},
		{api.Shape{Kind: 99}, api.ErrBad},
		{polygon(ring(3)), api.ErrBad},
		{line(at(nowhere, 1), at(1, 2)), api.ErrRange},
		{point(at(1, 2)), api.OK},
	}
	for i, a := range wrongs {
		wantCheck(t, "by itself", a.s, a.err)
		for _, b := range wrongs[i:] {
			wantCheck(t, "the first error first", collection(a.s, b.s), a.err)
			wantCheck(t, "the first error last", collection(b.s, a.s), a.err)
			wantCheck(t, "with others between", collection(b.s, rich(), point(), a.s, b.s), a.err)
		}
	}
}

// Two errors in one shape.
func TestCheckOfOneShapeWithSeveralErrors(t *testing.T) {
	far := at(nowhere, nowhere)
	wantCheck(t, "a point of two that are nowhere", point(far, far), api.ErrBad)
	wantCheck(t, "a line of one that is nowhere", line(far), api.ErrBad)
	wantCheck(t, "a kind that is none, nowhere", api.Shape{Kind: 8, XY: []api.Point{far}}, api.ErrBad)
	wantCheck(t, "a ring of three that are nowhere", polygon(open(far, far, far)), api.ErrBad)
	wantCheck(t, "a ring of four that are nowhere", polygon(open(far, far, far, far)), api.ErrRange)
	wantCheck(t, "a collection's own points, nowhere", api.Shape{Kind: shape.Collection, XY: []api.Point{far}}, api.ErrBad)
	long := append(row(4000), far)
	wantCheck(t, "a line of too many, one nowhere", line(long...), api.ErrLong)
	wantCheck(t, "a point of too many", point(long...), api.ErrLong)
	wantCheck(t, "a kind that is none, of too many", api.Shape{Kind: -1, XY: long}, api.ErrLong)
	wantCheck(t, "a ring of too many by itself", open(long...), api.ErrLong)
	wantCheck(t, "too many parts of a point of two", within(point(row(2)...), many(1001, point())...), api.ErrLong)
	wantCheck(t, "too many parts that are bad", of(99, many(1001, line(far))...), api.ErrLong)
	wantCheck(t, "too deep, of too many, bad, nowhere", under(deepest, api.Shape{Kind: -1, XY: long, Parts: many(1001, api.Shape{})}), api.ErrDeep)
	wantCheck(t, "too deep in what is no kind", of(99, under(deepest-1, point())), api.ErrDeep)
	wantCheck(t, "deep in what is no kind", of(99, under(deepest-2, point())), api.ErrBad)
}

// What lies deeper than 17 changes nothing: it is too deep all the same.
func TestCheckOfWhatLiesTooDeep(t *testing.T) {
	for _, s := range []api.Shape{line(row(5000)...), collection(many(1500, point())...), {Kind: 99}, point(at(nowhere, 0)), under(100, point())} {
		wantCheck(t, "deeper than 17", under(17, s), api.ErrDeep)
	}
}
