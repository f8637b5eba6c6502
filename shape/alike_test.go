package shape_test

import (
	"math"
	"slices"
	"testing"

	"hachure/api"
	"hachure/shape"
)

// P13.2: Equal and Copy.

func TestEqual(t *testing.T) {
	for _, s := range []api.Shape{{}, point(), point(at(1, 2)), line(row(9)...), ring(4), polygon(), polygon(ring(4), ring(5)), collection(), rich(), {Kind: 99, XY: row(2)}, point(at(nowhere, nowhere))} {
		wantEqual(t, "itself", s, s, true)
		wantEqual(t, "one made like it", s, roomy(s), true)
	}
}

func TestEqualOfNilAndEmptyLists(t *testing.T) {
	none, empty := []api.Point(nil), []api.Point{}
	for kind := shape.Ring; kind <= shape.Collection; kind++ {
		a := api.Shape{Kind: kind, XY: none}
		b := api.Shape{Kind: kind, XY: empty, Parts: []api.Shape{}}
		c := api.Shape{Kind: kind, XY: row(1)[:0], Parts: many(1, point())[:0]}
		for _, x := range []api.Shape{a, b, c} {
			for _, y := range []api.Shape{a, b, c} {
				wantEqual(t, "lists without anything", x, y, true)
				wantEqual(t, "such parts", collection(x, point()), collection(y, point()), true)
			}
			wantCheck(t, "lists without anything", x, shape.Check(a))
			wantCounts(t, "lists without anything", x, 0, 0, 1)
			wantAll(t, "lists without anything", x)
		}
	}
}

func TestEqualOfShapesThatDiffer(t *testing.T) {
	a, b, c := at(1, 2), at(3, 4), at(5, 6)
	for what, p := range map[string][2]api.Shape{
		"Kind":                        {point(), line()},
		"Kind, of points alike":       {point(a), line(a)},
		"Kind, of parts alike":        {collection(point(a)), of(shape.MultiPoint, point(a))},
		"Kind, that is none":          {{Kind: 8}, {Kind: 9}},
		"Kind, by its sign":           {{Kind: 3}, {Kind: -3}},
		"Kind, by 2^32":               {{Kind: 3}, {Kind: 3 + 1<<32}},
		"X":                           {point(a), point(at(0, 2))},
		"Y":                           {point(a), point(at(1, 0))},
		"X and Y, the other way":      {point(a), point(at(2, 1))},
		"an ordinate, by its sign":    {point(a), point(at(1, -2))},
		"an ordinate, at the ends":    {point(at(math.MinInt, 0)), point(at(math.MaxInt, 0))},
		"an ordinate, beside an end":  {point(at(nowhere, 0)), point(at(nowhere+1, 0))},
		"the first point":             {line(a, b, c), line(c, b, c)},
		"a point between":             {line(a, b, c), line(a, a, c)},
		"the last point":              {line(a, b, c), line(a, b, a)},
		"the order of points":         {line(a, b, c), line(c, b, a)},
		"a point more":                {line(a, b), line(a, b, c)},
		"a point twice":               {line(a, b), line(a, b, b)},
		"no point":                    {point(a), point()},
		"a part more":                 {collection(point(a)), collection(point(a), point(a))},
		"an empty part":               {collection(), collection(point())},
		"a part of nothing":           {collection(), collection(api.Shape{})},
		"the order of parts":          {collection(point(a), point(b)), collection(point(b), point(a))},
		"the kind of a part":          {collection(point(a), point()), collection(point(a), line())},
		"a point of the last part":    {collection(point(a), line(a, b)), collection(point(a), line(a, c))},
		"a point of the first part":   {collection(line(a, b), point(a)), collection(line(a, c), point(a))},
		"which part has a point":      {collection(point(a), point()), collection(point(), point(a))},
		"where a part lies":           {collection(collection(point(a)), point(b)), collection(collection(point(a), point(b)))},
		"whose ring it is":            {collection(polygon(ring(4)), polygon()), collection(polygon(), polygon(ring(4)))},
		"whether a ring is a part":    {collection(polygon(ring(4))), collection(polygon(), ring(4))},
		"own points, or a part's":     {within(line(a), line(b)), within(line(a, b), line())},
		"a ring more":                 {polygon(ring(4)), polygon(ring(4), ring(4))},
		"a ring of five":              {polygon(ring(4)), polygon(ring(5))},
		"a part of a ring":            {polygon(ring(4)), polygon(within(ring(4), point(a)))},
		"a part of a point":           {point(a), within(point(a), point(a))},
		"points beside parts":         {{Kind: 7, XY: row(1), Parts: many(1, point())}, {Kind: 7, Parts: many(1, point())}},
		"what is as deep as may be":   {under(deepest, point(a)), under(deepest, point(b))},
		"the part behind the 1001st":  {collection(many(1500, point())...), collection(append(many(1499, point()), line())...)},
		"a part more, of many":        {collection(many(1500, point())...), collection(many(1501, point())...)},
		"the point behind the 4001st": {line(row(5000)...), line(slices.Concat(row(4999), row(1))...)},
	} {
		wantEqual(t, what, p[0], p[1], false)
		wantEqual(t, what+", in a collection", collection(point(a), p[0]), collection(point(a), p[1]), what == "what is as deep as may be")
	}
}

func TestCopy(t *testing.T) {
	for _, s := range []api.Shape{{}, point(), point(at(1, 2)), line(row(9)...), ring(4), polygon(), polygon(ring(4), ring(5)), collection(), rich(), {Kind: -99, XY: row(2), Parts: many(2, polygon(dotted()))}, line(row(9000)...), collection(many(3000, point(at(1, 2)))...), under(40, rich())} {
		c := shape.Copy(s)
		if text(c) != text(s) {
			t.Errorf("Copy: %.200s, want %.200s", text(c), text(s))
		}
		wantEqual(t, "a copy", s, c, true)
	}
}

// dotted is a ring that has a part.
func dotted() api.Shape {
	return within(ring(4), point(at(1, 2)))
}

func TestCopyThatIsChanged(t *testing.T) {
	for _, s := range []api.Shape{point(at(1, 2)), line(row(5)...), polygon(ring(4), ring(5)), polygon(dotted()), rich(), under(30, rich())} {
		s = roomy(s)
		c := shape.Copy(s)
		want, all := text(s), allOf(s)
		spoil(c)
		if text(s) != want || allOf(s) != all {
			t.Error("a copy was changed, and the shape with it")
		}
		c = shape.Copy(s)
		spoil(s)
		if text(c) != want {
			t.Error("a shape was changed, and its copy with it")
		}
	}
}

// No two lists of a copy share memory, not even the room behind their ends; and that shows nothing of the shape's.
func TestCopyHasListsOfItsOwn(t *testing.T) {
	same := row(4)
	s := collection(line(same...), line(same...), polygon(open(same...), open(same[:2]...)), line(same[2:]...))
	want := text(s)
	for i := range lists(shape.Copy(s)) {
		c := shape.Copy(s)
		l := *lists(c)[i]
		ahead := slices.Clone(l)
		full := l[:cap(l)]
		for j := range full {
			full[j] = at(-1, -1)
		}
		copy(l, ahead)
		if text(c) != want {
			t.Errorf("list %d shares memory with another one: %s", i, text(c))
		}
	}
	c := shape.Copy(s)
	for i := range c.Parts {
		c.Parts[i].Parts = append(c.Parts[i].Parts, point())
		c.Parts[i].Parts = c.Parts[i].Parts[:len(c.Parts[i].Parts)-1]
	}
	if text(c) != want {
		t.Errorf("lists of parts share memory: %s", text(c))
	}
}

// lists is where each list of points of a shape stands.
func lists(s api.Shape) []*[]api.Point {
	var out []*[]api.Point
	for i := range s.Parts {
		out = append(out, &s.Parts[i].XY)
		out = append(out, lists(s.Parts[i])...)
	}
	return out
}
