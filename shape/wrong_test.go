package shape_test

import (
	"math"
	"slices"
	"testing"

	"hachure/api"
	"hachure/shape"
)

func TestKindsThatAreNone(t *testing.T) {
	for _, kind := range ends() {
		if kind >= 1 && kind <= 7 {
			continue
		}
		wantCheck(t, "at the top", api.Shape{Kind: kind}, api.ErrBad)
		wantCheck(t, "with a point", api.Shape{Kind: kind, XY: row(1)}, api.ErrBad)
		wantCheck(t, "with a ring's points", api.Shape{Kind: kind, XY: ring(4).XY}, api.ErrBad)
		wantCheck(t, "with parts", of(kind, point()), api.ErrBad)
		wantCheck(t, "as a part", collection(point(), of(kind)), api.ErrBad)
		wantCheck(t, "as a part that has points", collection(api.Shape{Kind: kind, XY: row(2)}, point()), api.ErrBad)
		wantCheck(t, "deep", under(deepest-1, of(kind)), api.ErrBad)
		for outer := shape.MultiPoint; outer <= shape.MultiPolygon; outer++ {
			wantCheck(t, "as a part of "+shape.Name(outer), of(outer, of(kind)), api.ErrBad)
		}
		if kind != shape.Ring {
			wantCheck(t, "as a part of a polygon", polygon(api.Shape{Kind: kind, XY: ring(4).XY}), api.ErrBad)
		}
	}
}

// selves are shapes that lie in themselves.
func selves() map[string]api.Shape {
	one := make([]api.Shape, 1)
	one[0] = api.Shape{Kind: shape.Collection, XY: row(1), Parts: one}
	rings := make([]api.Shape, 1)
	rings[0] = api.Shape{Kind: shape.Ring, XY: row(1), Parts: rings}
	two := make([]api.Shape, 2)
	two[0] = api.Shape{Kind: shape.Ring, Parts: two[1:]}
	two[1] = api.Shape{Kind: shape.Polygon, XY: row(1), Parts: two[:1]}
	return map[string]api.Shape{"a collection": one[0], "a ring": rings[0], "a polygon": two[1]}
}

// Every call ends, also of what has no end.
func TestShapesInThemselves(t *testing.T) {
	for what, s := range selves() {
		wantCheck(t, what, s, api.ErrDeep)
		if n := shape.Depth(s); n != 17 {
			t.Errorf("%s: Depth: %d", what, n)
		}
		if n := shape.Points(s); n != 17 {
			t.Errorf("%s: Points: %d", what, n)
		}
		if n := len(told(s)); n != 17 {
			t.Errorf("%s: All: %d", what, n)
		}
		if shape.Empty(s) {
			t.Errorf("%s: Empty", what)
		}
		wantEqual(t, what, s, s, true)
		wantEqual(t, what, s, shape.Copy(s), true)
	}
	// Each of two parts has both again.
	l := make([]api.Shape, 2)
	l[0] = api.Shape{Kind: shape.Collection, Parts: l}
	l[1] = l[0]
	wantCheck(t, "both in both", l[0], api.ErrDeep)
	wantCounts(t, "both in both", l[0], 0, 1001, 17)
	wantEqual(t, "both in both", l[0], l[1], true)
	wantAll(t, "both in both", l[0])
	if !shape.Empty(l[0]) {
		t.Error("both in both: not Empty")
	}
}

// As many parts in one another as the document bounds.
func TestPartsInOneAnother(t *testing.T) {
	s := under(1<<16, point(at(1, 2)))
	wantCheck(t, "2^16 parts", s, api.ErrDeep)
	wantCounts(t, "2^16 parts", s, 0, 16, 17)
	c := shape.Copy(s)
	wantEqual(t, "2^16 parts", s, c, true)
	n := 0
	for len(c.Parts) == 1 {
		if c.Kind != shape.Collection || len(c.XY) != 0 {
			t.Fatalf("part %d of the copy is another one", n)
		}
		c = c.Parts[0]
		n++
	}
	if n != 1<<16 || text(c) != text(point(at(1, 2))) {
		t.Errorf("the copy has %d parts in one another, and in them %s", n, text(c))
	}
}

// faces is each call that is given a shape, by name.
func faces() map[string]func(s api.Shape) {
	return map[string]func(s api.Shape){
		"Check":            func(s api.Shape) { shape.Check(s) },
		"Empty":            func(s api.Shape) { shape.Empty(s) },
		"Equal":            func(s api.Shape) { shape.Equal(s, rich()) },
		"Equal, with s":    func(s api.Shape) { shape.Equal(s, s) },
		"Equal, as second": func(s api.Shape) { shape.Equal(rich(), s) },
		"Copy":             func(s api.Shape) { spoil(shape.Copy(s)) },
		"Points":           func(s api.Shape) { shape.Points(s) },
		"Parts":            func(s api.Shape) { shape.Parts(s) },
		"Depth":            func(s api.Shape) { shape.Depth(s) },
		"All": func(s api.Shape) {
			l := told(s)
			for i := range l {
				l[i] = at(-1, -1)
			}
		},
	}
}

// What is handed in is not changed, nor what lies behind its lists' ends; and no call panics.
func TestNothingIsChanged(t *testing.T) {
	shapes := []api.Shape{{}, point(), point(at(1, 2)), line(row(9)...), polygon(ring(4), dotted()), rich(), under(30, rich()), {Kind: math.MinInt, XY: row(4), Parts: many(3, ring(4))}, line(row(4001)...), collection(many(1001, point(at(1, 2)))...)}
	for name, call := range faces() {
		for _, s := range shapes {
			wantUnchanged(t, name, s, call)
		}
	}
}

// What a call answers hangs on the shape alone, not on what was asked ahead.
func TestAnswersAreTheSameAgain(t *testing.T) {
	for range 3 {
		wantCounts(t, "again", rich(), 38, 28, 4)
		wantCheck(t, "again", rich(), api.OK)
		wantCheck(t, "again, wrong", collection(rich(), ring(4)), api.ErrBad)
		if !slices.Equal(told(rich()), told(rich())) {
			t.Error("All tells others")
		}
	}
}
