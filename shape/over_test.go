package shape_test

import (
	"slices"
	"testing"

	"hachure/api"
	"hachure/shape"
)

// P13.2

func TestCounts(t *testing.T) {
	wantCounts(t, "a zero shape", api.Shape{}, 0, 0, 1)
	wantCounts(t, "an empty point", point(), 0, 0, 1)
	wantCounts(t, "a point", point(at(1, 2)), 1, 0, 1)
	wantCounts(t, "a line", line(row(5)...), 5, 0, 1)
	wantCounts(t, "a ring", ring(4), 4, 0, 1)
	wantCounts(t, "an empty polygon", polygon(), 0, 0, 1)
	wantCounts(t, "a polygon", polygon(ring(4)), 4, 1, 1)
	wantCounts(t, "a polygon of several rings", polygon(ring(4), ring(5), ring(6)), 15, 3, 1)
	wantCounts(t, "a multipoint", of(shape.MultiPoint, point(), point(at(1, 2))), 1, 2, 2)
	wantCounts(t, "a multiline", of(shape.MultiLine, line(row(3)...), line(row(4)...)), 7, 2, 2)
	wantCounts(t, "a multipolygon", of(shape.MultiPolygon, polygon(ring(4), ring(5)), polygon()), 9, 4, 2)
	wantCounts(t, "a collection", collection(), 0, 0, 1)
	wantCounts(t, "a collection in another", collection(collection(), line(row(2)...)), 2, 2, 2)
	wantCounts(t, "points of its own, and of its parts", collection(within(point(at(1, 2)), line(row(3)...)), polygon(ring(7))), 11, 4, 3)
	wantCounts(t, "all of them", rich(), 1+2+7+4+14+1+2+6+1, 16+3+2+2+3+2, 4)
}

// The points and parts of what may not be count too.
func TestCountsOfWhatMayNotBe(t *testing.T) {
	wantCounts(t, "points that do not belong there", api.Shape{Kind: shape.Collection, XY: row(3), Parts: many(2, line(at(1, 2)))}, 5, 2, 2)
	wantCounts(t, "kinds that are none", api.Shape{Kind: 99, XY: row(3), Parts: many(2, api.Shape{Kind: -5, XY: row(4)})}, 11, 2, 2)
	wantCounts(t, "points that are nowhere", line(at(nowhere, nowhere), at(nowhere, 0)), 2, 0, 1)
}

func TestDepthOfRings(t *testing.T) {
	dot := point(at(1, 2))
	for what, c := range map[string]struct {
		s    api.Shape
		want int
	}{
		"a ring in a polygon":                       {polygon(ring(4)), 1},
		"a point in a polygon":                      {polygon(dot), 2},
		"both":                                      {polygon(dot, ring(4)), 2},
		"both, the ring ahead":                      {polygon(ring(4), dot), 2},
		"a point in a ring in a polygon":            {polygon(within(ring(4), dot)), 2},
		"a ring in a ring in a polygon":             {polygon(within(ring(4), ring(4))), 2},
		"three rings in one another, in a polygon":  {polygon(within(ring(4), within(ring(4), ring(4)))), 3},
		"a polygon in a ring in a polygon":          {polygon(within(ring(4), polygon(ring(4)))), 2},
		"a collection in a ring in a polygon":       {polygon(within(ring(4), collection(dot))), 3},
		"a ring in a polygon in a ring in one":      {polygon(within(ring(4), polygon(within(ring(4), dot)))), 3},
		"a point in the second ring":                {polygon(ring(4), within(ring(4), dot)), 2},
		"a ring by itself":                          {ring(4), 1},
		"a point in a ring by itself":               {within(ring(4), dot), 2},
		"a ring in a ring by itself":                {within(ring(4), ring(4)), 2},
		"a polygon in a ring by itself":             {within(ring(4), polygon(ring(4))), 2},
		"a ring in a collection":                    {collection(ring(4)), 2},
		"a ring in a multipolygon":                  {of(shape.MultiPolygon, ring(4)), 2},
		"a ring in a multipolygon's polygon":        {of(shape.MultiPolygon, polygon(ring(4))), 2},
		"a ring in a point":                         {within(dot, ring(4)), 2},
		"a ring in what is no kind":                 {of(8, ring(4)), 2},
		"what is no kind in a polygon":              {polygon(of(-1)), 2},
		"the deepest part is not the last":          {collection(collection(collection()), dot), 3},
		"nor the first":                             {collection(dot, collection(collection()), dot), 3},
		"an empty ring in a polygon":                {polygon(open()), 1},
		"an empty ring with an empty one, likewise": {polygon(within(open(), open())), 2},
	} {
		if got := shape.Depth(c.s); got != c.want {
			t.Errorf("Depth of %s: %d, want %d", what, got, c.want)
		}
	}
}

func TestDepthAtItsBound(t *testing.T) {
	dot := point(at(1, 2))
	for n := range 40 {
		want := min(n+1, deepest+1)
		for what, s := range map[string]api.Shape{"a point": dot, "a polygon": polygon(ring(4)), "a zero shape": {}} {
			if got := shape.Depth(under(n, s)); got != want {
				t.Errorf("Depth of %s in %d collections: %d, want %d", what, n, got, want)
			}
		}
		want = min(n+2, deepest+1)
		if got := shape.Depth(under(n, polygon(within(ring(4), dot)))); got != want {
			t.Errorf("Depth of a point in a ring, in %d collections: %d, want %d", n, got, want)
		}
	}
}

// At depth 17 a shape is looked at, and so are the rings of a polygon; what lies below is not.
func TestWhatLiesTooDeep(t *testing.T) {
	dot := point(at(1, 2))
	wantCounts(t, "a point at 16", under(15, dot), 1, 15, 16)
	wantCounts(t, "a point at 17", under(16, dot), 1, 16, 17)
	wantCounts(t, "a point at 18", under(17, dot), 0, 16, 17)
	wantCounts(t, "a point at 19", under(18, dot), 0, 16, 17)
	wantCounts(t, "a point at 1001", under(1000, dot), 0, 16, 17)
	wantCounts(t, "a point with a point at 17", under(16, within(dot, dot)), 1, 16, 17)
	wantCounts(t, "rings at 16", under(15, polygon(ring(4), ring(5))), 9, 17, 16)
	wantCounts(t, "rings at 17", under(16, polygon(ring(4), ring(5))), 9, 18, 17)
	wantCounts(t, "rings at 18", under(17, polygon(ring(4), ring(5))), 0, 16, 17)
	wantCounts(t, "a point in a ring, at 17", under(15, polygon(within(ring(4), dot))), 5, 17, 17)
	wantCounts(t, "a point in a ring, at 18", under(16, polygon(within(ring(4), dot))), 4, 17, 17)
	wantCounts(t, "a ring in a ring, at 18", under(16, polygon(within(ring(4), ring(5)))), 4, 17, 17)
	wantCounts(t, "a point beside a ring, at 18", under(16, polygon(ring(4), dot, ring(5))), 9, 18, 17)
	wantCounts(t, "a ring that is no polygon's, at 18", under(16, collection(ring(4))), 0, 16, 17)
	wide := collection(under(17, dot), dot, under(16, line(row(2)...)), under(15, line(row(3)...)))
	wantCounts(t, "some of the parts", wide, 4, 16+1+16+16, 17)
	wantAll(t, "some of the parts", wide, append([]api.Point{at(1, 2)}, row(3)...)...)
	for n := range 40 {
		s := under(n, dot)
		if got, want := shape.Empty(s), n > 16; got != want {
			t.Errorf("Empty of a point in %d collections: %v, want %v", n, got, want)
		}
		if got, want := len(told(s)), shape.Points(s); got != want {
			t.Errorf("All of a point in %d collections: %d points, want %d", n, got, want)
		}
		wantEqual(t, "two that differ in the innermost point", s, under(n, point(at(1, 3))), n > 16)
		wantEqual(t, "two that differ in depth", s, under(n+1, dot), n > 16)
	}
	wantEqual(t, "parts of a point at 17", under(16, dot), under(16, within(dot, dot)), true)
	wantEqual(t, "parts of a polygon at 17", under(16, polygon(ring(4))), under(16, polygon(dot, ring(4), dot)), true)
	wantEqual(t, "rings of a polygon at 17", under(16, polygon(ring(4))), under(16, polygon(ring(5))), false)
	wantEqual(t, "how many rings of a polygon at 17", under(16, polygon(ring(4))), under(16, polygon(ring(4), ring(4))), false)
	wantEqual(t, "parts of a ring at 17", under(16, polygon(ring(4))), under(16, polygon(within(ring(4), dot))), true)
	wantEqual(t, "parts of a ring at 16", under(15, polygon(ring(4))), under(15, polygon(within(ring(4), dot))), false)
}

func TestPointsAtTheirBound(t *testing.T) {
	for _, n := range []int{0, 1, 3999, 4000, 4001, 4002, 4003, 5000, 8001, 100000} {
		want := min(n, mostPoints+1)
		half := n / 2
		for what, s := range map[string]api.Shape{
			"in a line":             line(row(n)...),
			"in a ring":             polygon(open(row(n)...)),
			"in two parts":          collection(line(row(half)...), line(row(n-half)...)),
			"in itself and a part":  within(line(row(half)...), line(row(n-half)...)),
			"in what is deep":       under(16, line(row(n)...)),
			"behind what is empty":  collection(point(), collection(), line(row(n)...)),
			"ahead of what is none": collection(line(row(n)...), point()),
		} {
			if got := shape.Points(s); got != want {
				t.Errorf("Points of %d %s: %d, want %d", n, what, got, want)
			}
			if got := len(told(s)); got != n {
				t.Errorf("All of %d %s: %d", n, what, got)
			}
		}
	}
	if got := shape.Points(collection(many(4000, point(at(1, 2)))...)); got != 4000 {
		t.Errorf("Points of 4000 parts: %d", got)
	}
	if got := shape.Points(collection(many(4005, point(at(1, 2)))...)); got != 4001 {
		t.Errorf("Points of 4005 parts: %d", got)
	}
}

func TestPartsAtTheirBound(t *testing.T) {
	for _, n := range []int{0, 1, 2, 999, 1000, 1001, 1002, 1003, 5000} {
		want := min(n, mostParts+1)
		if got := shape.Parts(collection(many(n, point())...)); got != want {
			t.Errorf("Parts of %d: %d, want %d", n, got, want)
		}
		if got := shape.Parts(polygon(many(n, ring(4))...)); got != want {
			t.Errorf("Parts of %d rings: %d, want %d", n, got, want)
		}
		if n >= 2 {
			s := collection(collection(many(n/2-1, point())...), collection(many(n-n/2-1, point())...))
			if got := shape.Parts(s); got != want {
				t.Errorf("Parts of %d in two: %d, want %d", n, got, want)
			}
		}
	}
}

func TestEmpty(t *testing.T) {
	for what, s := range map[string]api.Shape{
		"a zero shape": {}, "a point": point(), "a line": line(), "a ring": open(), "a polygon": polygon(), "a polygon of an empty ring": polygon(open()),
		"a collection": collection(), "a collection of empties": collection(point(), line(), polygon(), of(shape.MultiPoint, point()), collection(collection())),
		"what is no kind": {Kind: 99}, "what has many parts": collection(many(5000, point())...), "lists that are empty": {Kind: shape.Line, XY: []api.Point{}, Parts: []api.Shape{}},
	} {
		if !shape.Empty(s) {
			t.Errorf("Empty of %s: false", what)
		}
		wantAll(t, what, s)
	}
	for what, s := range map[string]api.Shape{
		"a point": point(at(0, 0)), "a point that is nowhere": point(at(nowhere, nowhere)), "a line": line(row(2)...), "a ring": ring(4), "a polygon": polygon(ring(4)),
		"points that do not belong there": {Kind: shape.Collection, XY: row(1)}, "the last of the parts": collection(point(), collection(), collection(point(), point(at(0, 0)))),
		"a part of a point": within(point(), point(at(1, 2))), "a part of a ring": polygon(within(open(), point(at(1, 2)))), "what is no kind": {Kind: 99, XY: row(1)}, "all of them": rich(),
		"too many": line(row(4001)...),
	} {
		if shape.Empty(s) {
			t.Errorf("Empty of %s: true", what)
		}
	}
}

func TestAll(t *testing.T) {
	wantAll(t, "a line", line(row(3)...), row(3)...)
	wantAll(t, "points that are alike", line(at(1, 1), at(1, 1)), at(1, 1), at(1, 1))
	s := within(line(at(1, 0), at(2, 0)),
		within(point(at(3, 0)), line(at(4, 0), at(5, 0)), collection(point(at(6, 0)))),
		polygon(open(at(7, 0)), within(open(at(8, 0)), point(at(9, 0))), open(at(10, 0))),
		point(at(11, 0)))
	var want []api.Point
	for x := 1; x <= 11; x++ {
		want = append(want, at(x, 0))
	}
	wantAll(t, "its own, then part by part", s, want...)
}

func TestAllIsLeftEarly(t *testing.T) {
	s := collection(line(row(3)...), polygon(ring(4), ring(5)), point(at(1, 2)))
	whole := told(s)
	all := shape.All(s)
	for n := range len(whole) + 1 {
		var got []api.Point
		for p := range all {
			if len(got) == n {
				break
			}
			got = append(got, p)
		}
		if !slices.Equal(got, whole[:n]) {
			t.Errorf("left behind %d: %v", n, got)
		}
	}
	calls := 0
	all(func(api.Point) bool { calls++; return false })
	if calls != 1 {
		t.Errorf("told %d times behind a false", calls)
	}
}

func TestAllIsGoneOverAgainAndNested(t *testing.T) {
	l := row(6)
	all := shape.All(collection(line(l[:3]...), line(l[3:]...)))
	for range 3 {
		if got := slices.Collect(all); !slices.Equal(got, l) {
			t.Errorf("once more: %v", got)
		}
	}
	i := 0
	for p := range all {
		j := 0
		for q := range all {
			if p != l[i] || q != l[j] {
				t.Errorf("nested: %v, %v at %d, %d", p, q, i, j)
			}
			j++
		}
		i++
	}
	if i != len(l) {
		t.Errorf("%d points", i)
	}
}

// What an iterator tells is as it was when it was asked for.
func TestAllIsAsItWas(t *testing.T) {
	s := rich()
	want := told(s)
	all := shape.All(s)
	spoil(s)
	if got := slices.Collect(all); !slices.Equal(got, want) {
		t.Errorf("behind a change: %v, want %v", got, want)
	}
	s = line(row(5)...)
	n := 0
	for p := range shape.All(s) {
		if p != row(5)[n] {
			t.Errorf("changed while it is gone over: %v at %d", p, n)
		}
		spoil(s)
		n++
	}
}
