package wkt

import (
	"strings"

	"hachure/api"
	"hachure/shape"
)

// deepest is how deep shapes are read: one more than they may be, so that Check tells what is too deep.
const deepest = api.MaxDepth + 1

// empty is what stands in place of brackets, where there is nothing to be in them.
const empty = "EMPTY"

// wrong is what a parser panics with: the token that is not as told.
type wrong token

// parser reads shapes from tokens. What is not as told ends it by a panic.
type parser struct {
	peek func() token // the next token, which stays
	next func() token // the next token, which goes
}

// read is the shape that a text says, from its begin to its end; not ok: where the first token begins that is not as told.
func read(text string) (s api.Shape, at int, ok bool) {
	defer func() {
		if w, is := recover().(wrong); is {
			s, at, ok = api.Shape{}, w.at, false
		}
	}()
	r := row{cut(text), len(text)}
	p := parser{r.peek, r.next}
	s = p.named(1)
	if p.peek().class != end {
		p.fail()
	}
	return s, 0, true
}

// fail ends the reading at the next token.
func (p parser) fail() {
	panic(wrong(p.peek()))
}

// named reads a shape at that depth, with its name.
func (p parser) named(depth int) api.Shape {
	kind, ok := shape.Kind(capitals(p.peek()))
	if !ok {
		p.fail()
	}
	p.next()
	return p.bare(kind, depth)
}

// bare reads what a shape of that kind has at that depth, without its name.
func (p parser) bare(kind, depth int) api.Shape {
	p.reach(depth)
	s := api.Shape{Kind: kind}
	switch {
	case p.takes(empty):
	case kind == shape.Point:
		p.want("(")
		s.XY = p.spot()
		p.want(")")
	case kind == shape.Line:
		s.XY = listed(p, p.place)
	default:
		s.Parts = listed(p, p.part(kind, depth+1))
	}
	return s
}

// reach fails where it is too deep to go on.
func (p parser) reach(depth int) {
	if depth > deepest {
		p.fail()
	}
}

// part is how a part of a shape of that kind is read, at the depth at which parts lie.
func (p parser) part(kind, depth int) func() api.Shape {
	switch kind {
	case shape.Polygon:
		return p.ring
	case shape.MultiPoint:
		return func() api.Shape { return p.loose(depth) }
	case shape.Collection:
		return func() api.Shape { return p.named(depth) }
	}
	return func() api.Shape { return p.bare(shape.Part(kind), depth) }
}

// ring reads a polygon's ring, which has neither a name nor a depth of its own, and is not empty.
func (p parser) ring() api.Shape {
	return api.Shape{Kind: shape.Ring, XY: listed(p, p.place)}
}

// loose reads a multipoint's point, which may stand without brackets.
func (p parser) loose(depth int) api.Shape {
	p.reach(depth)
	if p.peek().class == figure {
		return api.Shape{Kind: shape.Point, XY: p.spot()}
	}
	return p.bare(shape.Point, depth)
}

// spot reads the one point of a shape that has no more.
func (p parser) spot() []api.Point {
	return []api.Point{p.place()}
}

// place reads two ordinates.
func (p parser) place() api.Point {
	x := p.ordinate()
	y := p.ordinate()
	return api.Point{X: x, Y: y}
}

// ordinate reads one.
func (p parser) ordinate() int {
	n, ok := Number(p.peek().text())
	if !ok {
		p.fail()
	}
	p.next()
	return n
}

// want takes the next token, which says so.
func (p parser) want(text string) {
	if !p.takes(text) {
		p.fail()
	}
}

// takes takes the next token, if it says so.
func (p parser) takes(text string) bool {
	if capitals(p.peek()) != text {
		return false
	}
	p.next()
	return true
}

// capitals is what a token says, in capital letters.
func capitals(t token) string {
	return strings.ToUpper(t.text())
}

// listed reads what stands in brackets with commas between: one at least.
func listed[T any](p parser, read func() T) []T {
	p.want("(")
	l := []T{read()}
	for p.takes(",") {
		l = append(l, read())
	}
	p.want(")")
	return l
}
