package box_test

import (
	"fmt"
	"slices"
	"testing"

	"hachure/api"
	"hachure/box"
	"hachure/shape"
)

// P15.1: Of.

// The chapter's example.
func TestOfTheExample(t *testing.T) {
	s := line(at(1, 5), at(3, 2))
	wantOf(t, "a line", s, from(1, 2, 3, 5))
	wantArea(t, box.Of(s), "6")
}

func TestOf(t *testing.T) {
	round := ring(at(0, 0), at(9, 1), at(8, 7), at(0, 0))
	for what, c := range map[string]struct {
		s    api.Shape
		want api.Box
	}{
		"a point":                       {point(at(7, -8)), from(7, -8, 7, -8)},
		"a point at 0":                  {point(at(0, 0)), api.Box{}},
		"a line along X":                {line(at(3, 4), at(-3, 4), at(1, 4)), from(-3, 4, 3, 4)},
		"a line along Y":                {line(at(3, 4), at(3, -4)), from(3, -4, 3, 4)},
		"a line that ends where it was": {line(at(5, 5), at(5, 5)), from(5, 5, 5, 5)},
		"a line that falls":             {line(at(9, 0), at(5, 3), at(0, 9)), from(0, 0, 9, 9)},
		"a line whose middle is far":    {line(at(1, 1), at(40, -50), at(-60, 70), at(2, 2)), from(-60, -50, 40, 70)},
		"a line below 0":                {line(at(-2, -9), at(-7, -3)), from(-7, -9, -2, -3)},
		"a polygon":                     {polygon(round), from(0, 0, 9, 7)},
		"a polygon of two rings":        {polygon(round, ring(at(2, 2), at(3, 2), at(-30, 30), at(2, 2))), from(-30, 0, 9, 30)},
		"points":                        {of(aMultiPoint, point(), point(at(4, 1)), point(at(1, 4)), point()), from(1, 1, 4, 4)},
		"lines":                         {of(aMultiLine, line(), line(at(4, 1), at(5, 1)), line(at(1, 4), at(1, 5))), from(1, 1, 5, 5)},
		"polygons":                      {of(aMultiPolygon, polygon(), polygon(round), polygon(ring(at(-1, -2), at(-3, -4), at(-5, -6), at(-1, -2)))), from(-5, -6, 9, 7)},
		"a collection":                  {collection(point(), point(at(6, 6)), collection(line(at(9, 1), at(8, 2)), collection()), polygon()), from(6, 1, 9, 6)},
		"the ends of what may be":       {line(at(least+1, most), at(most, least+1)), from(least+1, least+1, most, most)},
	} {
		if err := shape.Check(c.s); err != api.OK {
			t.Errorf("%s: Check: %s", what, err)
		}
		wantOf(t, what, c.s, c.want)
	}
}

// Shapes without points have the box of nothing, whatever their parts are.
func TestOfNoPoints(t *testing.T) {
	for kind := range 10 {
		wantOf(t, "nothing", api.Shape{Kind: kind}, none())
		wantOf(t, "a list that is empty", api.Shape{Kind: kind, XY: []api.Point{}, Parts: []api.Shape{}}, none())
		wantOf(t, "parts without points", of(kind, point(), line(), polygon(), ring(), collection(point())), none())
		wantOf(t, "parts without points, deep", under(15, of(kind, point())), none())
	}
	wantOf(t, "the zero shape", api.Shape{}, none())
}

// Points count wherever they lie, as deep as a shape may be and one deeper; what lies below that shape does not look at.
func TestOfDeep(t *testing.T) {
	deep := line(at(-5, 6), at(7, -8))
	for n := range 17 {
		wantOf(t, fmt.Sprint("a line in collections: ", n), under(n, deep), from(-5, -8, 7, 6))
		beside := collection(point(at(100, 100)), under(n, deep), point(at(1, 1)))
		if n < 16 {
			wantOf(t, fmt.Sprint("a line beside points: ", n), beside, from(-5, -8, 100, 100))
		} else {
			wantOf(t, fmt.Sprint("a line beside points: ", n), beside, from(1, 1, 100, 100))
		}
	}
	for n := 17; n < 40; n++ {
		wantOf(t, fmt.Sprint("a line in collections: ", n), under(n, deep), none())
	}
}

// Shapes that may not be have points, too.
func TestOfShapesThatMayNotBe(t *testing.T) {
	far := slices.Repeat([]api.Point{at(1, 1)}, 5000)
	far[4999] = at(-9, 9)
	parts := slices.Repeat([]api.Shape{point(at(2, 2))}, 1500)
	parts[1499] = point(at(8, -8))
	for what, c := range map[string]struct {
		s    api.Shape
		want api.Box
	}{
		"a ring by itself":           {ring(at(1, 2), at(3, 4)), from(1, 2, 3, 4)},
		"a kind that is none":        {api.Shape{Kind: 99, XY: []api.Point{at(5, 6)}}, from(5, 6, 5, 6)},
		"a kind below 0":             {api.Shape{Kind: least, XY: []api.Point{at(5, 6)}, Parts: []api.Shape{point(at(6, 5))}}, from(5, 5, 6, 6)},
		"a point of two":             {point(at(1, 2), at(0, 3)), from(0, 2, 1, 3)},
		"a line of one":              {line(at(3, 3)), from(3, 3, 3, 3)},
		"a line with parts":          {api.Shape{Kind: aLine, XY: []api.Point{at(1, 1), at(2, 2)}, Parts: []api.Shape{point(at(9, 0))}}, from(1, 0, 9, 2)},
		"a collection with points":   {api.Shape{Kind: aCollection, XY: []api.Point{at(1, 1)}, Parts: []api.Shape{point(at(0, 4))}}, from(0, 1, 1, 4)},
		"a polygon of points":        {polygon(point(at(4, 4)), point(at(5, 5))), from(4, 4, 5, 5)},
		"a ring that is open":        {polygon(ring(at(1, 1), at(2, 9))), from(1, 1, 2, 9)},
		"points in a multiline":      {of(aMultiLine, point(at(1, 0)), line(at(0, 1), at(2, 2))), from(0, 0, 2, 2)},
		"an X that is nowhere":       {point(at(nowhere, 3)), from(nowhere, 3, nowhere, 3)},
		"a Y that is nowhere":        {line(at(1, nowhere), at(2, 2)), from(1, nowhere, 2, 2)},
		"both nowhere":               {collection(point(at(nowhere, nowhere)), point(at(most, most))), from(least, least, most, most)},
		"more points than there may": {line(far...), from(-9, 1, 1, 9)},
		"more parts than there may":  {collection(parts...), from(2, -8, 8, 2)},
	} {
		if err := shape.Check(c.s); err == api.OK {
			t.Errorf("%s: Check: %s", what, err)
		}
		wantOf(t, what, c.s, c.want)
	}
}

// The call ends, also of what has no end.
func TestOfShapesInThemselves(t *testing.T) {
	one := make([]api.Shape, 1)
	one[0] = api.Shape{Kind: aCollection, XY: []api.Point{at(3, 4)}, Parts: one}
	wantOf(t, "a collection in itself", one[0], from(3, 4, 3, 4))
	two := make([]api.Shape, 2)
	two[0] = api.Shape{Kind: aRing, XY: []api.Point{at(-1, 0)}, Parts: two[1:]}
	two[1] = api.Shape{Kind: aPolygon, XY: []api.Point{at(1, 2)}, Parts: two[:1]}
	wantOf(t, "a polygon in itself", two[1], from(-1, 0, 1, 2))
}

// Of changes nothing, nor does it look at what lies behind a list's end.
func TestOfRoom(t *testing.T) {
	xy := []api.Point{at(1, 1), at(2, 2), at(99, -99)}
	parts := []api.Shape{{Kind: aLine, XY: xy[:2]}, point(at(77, 77))}
	s := api.Shape{Kind: aCollection, Parts: parts[:1]}
	ahead := fmt.Sprint(xy, parts)
	wantOf(t, "lists with room", s, from(1, 1, 2, 2))
	if now := fmt.Sprint(xy, parts); now != ahead {
		t.Errorf("the shape has changed: %s, it was %s", now, ahead)
	}
}
