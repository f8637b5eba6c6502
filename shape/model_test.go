package shape_test

import (
	"slices"
	"testing"

	"hachure/api"
	"hachure/shape"
)

// found is a shape that lies in another one, and how deep.
type found struct {
	depth int
	s     api.Shape
}

// search is s and all in it, by the document's words, be it as deep as it may.
func search(s api.Shape, depth int) []found {
	out := []found{{depth, s}}
	for _, p := range s.Parts {
		if s.Kind == 3 && p.Kind == 0 {
			out = append(out, search(p, depth)...)
		} else {
			out = append(out, search(p, depth+1)...)
		}
	}
	return out
}

// depthByWords is 1, and the greatest of the parts; of a polygon's rings what lies in them.
func depthByWords(s api.Shape) int {
	most := 0
	for _, p := range s.Parts {
		if s.Kind == 3 && p.Kind == 0 {
			for _, q := range p.Parts {
				most = max(most, depthByWords(q))
			}
		} else {
			most = max(most, depthByWords(p))
		}
	}
	return 1 + most
}

// notAsTold says whether P13.1 says otherwise of s, or of a part.
func notAsTold(s api.Shape) bool {
	points, parts := len(s.XY), len(s.Parts)
	switch s.Kind {
	case 1:
		return points > 1 || parts > 0
	case 2:
		return points == 1 || parts > 0
	case 3, 4, 5, 6, 7:
	default:
		return true
	}
	return points > 0 || slices.ContainsFunc(s.Parts, func(p api.Shape) bool {
		if s.Kind == 3 {
			return p.Kind != 0 || len(p.Parts) > 0 || len(p.XY) < 4 || p.XY[0] != p.XY[len(p.XY)-1]
		}
		return s.Kind < 7 && p.Kind != s.Kind-3 || notAsTold(p)
	})
}

// model is what the calls have to tell of a shape.
type model struct {
	points []api.Point
	parts  int
	depth  int
	err    api.Errno
}

func modelOf(s api.Shape) model {
	m := model{parts: -1, depth: min(depthByWords(s), 17)}
	far := false
	for _, f := range search(s, 1) {
		if f.depth <= 17 {
			m.parts++
			m.points = append(m.points, f.s.XY...)
		}
		far = far || slices.ContainsFunc(f.s.XY, func(p api.Point) bool { return p.X == nowhere || p.Y == nowhere })
	}
	switch {
	case m.depth > deepest:
		m.err = api.ErrDeep
	case len(m.points) > mostPoints || m.parts > mostParts:
		m.err = api.ErrLong
	case notAsTold(s):
		m.err = api.ErrBad
	case far:
		m.err = api.ErrRange
	}
	return m
}

// wantModel holds each call to the model.
func wantModel(t *testing.T, s api.Shape) api.Errno {
	t.Helper()
	m := modelOf(s)
	wantCounts(t, "a thrown shape", s, min(len(m.points), mostPoints+1), min(m.parts, mostParts+1), m.depth)
	wantCheck(t, "a thrown shape", s, m.err)
	wantAll(t, "a thrown shape", s, m.points...)
	if got, want := shape.Empty(s), len(m.points) == 0; got != want {
		t.Errorf("Empty: %v, want %v", got, want)
	}
	if t.Failed() {
		t.Fatalf("of %.500s", text(s))
	}
	return m.err
}

// anyShape is one of any kind, mostly wrong.
func (d *dice) anyShape(size int) api.Shape {
	s := api.Shape{Kind: d.under(8)}
	if d.under(20) == 0 {
		s.Kind = ends()[d.under(len(ends()))]
	}
	if d.under(2) == 0 {
		s.XY = d.anyPoints(d.under(6))
	}
	for size > 1 && d.under(5) > 0 {
		part := 1 + d.under(size-1)
		s.Parts = append(s.Parts, d.anyShape(part))
		size -= part
	}
	return s
}

func (d *dice) anyPoints(n int) []api.Point {
	var l []api.Point
	for range n {
		l = append(l, at(d.under(9)-4, d.under(9)-4))
	}
	if n > 0 && d.under(300) == 0 {
		l[d.under(n)].Y = nowhere
	}
	return l
}

// goodShape is one of that kind that may be, but that a few points are nowhere.
func (d *dice) goodShape(kind, size int) api.Shape {
	s := api.Shape{Kind: kind}
	switch kind {
	case 0:
		s.XY = d.anyPoints(3 + d.under(5))
		s.XY = append(s.XY, s.XY[0])
	case 1:
		s.XY = d.anyPoints(d.under(2))
	case 2:
		s.XY = d.anyPoints([]int{0, 2, 3, 9}[d.under(4)])
	default:
		for size > 1 && d.under(6) > 0 {
			part, own := 1+d.under(size-1), kind-3
			if kind == 7 {
				own = 1 + d.under(7)
			}
			s.Parts = append(s.Parts, d.goodShape(own, part))
			size -= part
		}
	}
	return s
}

// tower is a shape in many others, of which most let it be deep, with some beside it.
func (d *dice) tower(s api.Shape) api.Shape {
	for range 10 + d.under(12) {
		outer := api.Shape{Kind: []int{7, 7, 7, 3, 0, 6, 1}[d.under(7)], Parts: []api.Shape{s}}
		if d.under(4) == 0 {
			outer.XY = d.anyPoints(d.under(3))
			outer.Parts = slices.Insert(outer.Parts, d.under(2), d.anyShape(3))
		}
		s = outer
	}
	return s
}

// crowd is a shape with about as many points or parts as there may be.
func (d *dice) crowd() api.Shape {
	if d.under(2) == 0 {
		return collection(many(995+d.under(12), d.goodShape(1+d.under(3), 1))...)
	}
	return collection(line(row(1995+d.under(12))...), line(row(1995+d.under(12))...))
}

func TestThrownShapes(t *testing.T) {
	seen := map[api.Errno]int{}
	for seed := range 6000 {
		d := thrown(seed)
		var s api.Shape
		switch {
		case seed%50 == 0:
			s = d.crowd()
		case seed%5 == 0:
			s = d.tower(d.goodShape(1+d.under(7), 6))
		case seed%5 == 1:
			s = d.anyShape(1 + d.under(12))
		default:
			s = d.goodShape(1+d.under(7), 1+d.under(40))
		}
		seen[wantModel(t, s)]++
	}
	for _, e := range []api.Errno{api.OK, api.ErrDeep, api.ErrLong, api.ErrBad, api.ErrRange} {
		if seen[e] < 20 {
			t.Errorf("%s: %d times alone", e, seen[e])
		}
	}
}

// thing is one thing of a shape that can be made another one.
type thing func(s *api.Shape)

// things is a change for each thing that a shape and all in it have, but for what lies too deep.
func things(s api.Shape, way func(s *api.Shape) *api.Shape, depth int) []thing {
	out := []thing{
		func(s *api.Shape) { way(s).Kind++ },
		func(s *api.Shape) { q := way(s); q.XY = append(q.XY, at(0, 0)) },
	}
	if depth < 17 {
		out = append(out, func(s *api.Shape) { q := way(s); q.Parts = append(q.Parts, point()) })
	}
	for i := range s.XY {
		out = append(out, func(s *api.Shape) { way(s).XY[i].X++ }, func(s *api.Shape) { way(s).XY[i].Y ^= 1 << 62 })
	}
	for i, p := range s.Parts {
		below := depth + 1
		if s.Kind == 3 && p.Kind == 0 {
			below = depth
		}
		if below <= 17 {
			out = append(out, things(p, func(s *api.Shape) *api.Shape { return &way(s).Parts[i] }, below)...)
		}
	}
	return out
}

// P13.4: a copy is equal; and it is not, once any one thing of it is another one.
func TestCopiesAreEqual(t *testing.T) {
	for seed := range 300 {
		d := thrown(seed)
		s := d.goodShape(1+d.under(7), 1+d.under(30))
		switch seed % 4 {
		case 0:
			s = d.anyShape(1 + d.under(12))
		case 1:
			s = d.tower(d.goodShape(1+d.under(7), 6))
		}
		want := text(s)
		c := shape.Copy(s)
		wantEqual(t, "a copy", s, c, true)
		if text(c) != want {
			t.Fatalf("a copy of %s: %s", want, text(c))
		}
		for i, change := range things(s, func(s *api.Shape) *api.Shape { return s }, 1) {
			c := shape.Copy(s)
			change(&c)
			if shape.Equal(s, c) || shape.Equal(c, s) {
				t.Fatalf("%s is equal to %s (change %d)", want, text(c), i)
			}
		}
		if text(s) != want {
			t.Fatalf("%s has changed with its copies: %s", want, text(s))
		}
	}
}

// P13.4: who has no points is empty, whatever its parts are.
func TestWithoutPointsIsEmpty(t *testing.T) {
	for seed := range 300 {
		d := thrown(seed)
		s := d.tower(d.anyShape(1 + d.under(20)))
		if seed%2 == 0 {
			s = d.anyShape(1 + d.under(20))
		}
		bare := bared(s)
		if !shape.Empty(bare) || shape.Points(bare) != 0 || len(told(bare)) != 0 {
			t.Fatalf("not empty: %s", text(bare))
		}
		if shape.Empty(s) != (shape.Points(s) == 0) {
			t.Fatalf("Empty of %d points: %v", shape.Points(s), shape.Empty(s))
		}
	}
}

// bared is s without points.
func bared(s api.Shape) api.Shape {
	out := api.Shape{Kind: s.Kind}
	for _, p := range s.Parts {
		out.Parts = append(out.Parts, bared(p))
	}
	return out
}
