package wkb

import (
	"hachure/api"
	"hachure/octet"
	"hachure/shape"
)

const (
	// anyKind is what shape's Part says of a collection: its parts may be of each kind.
	anyKind = -1
	// The fewest bytes of a part: its order, its Kind, and that there is nothing in it; and of a ring.
	fewestOfPart = orderSize + 2*numberSize
	fewestOfRing = numberSize
)

// result is what came of reading: something whole, or what is wrong.
type result interface {
	err() api.Errno
}

// whole is a shape, or a ring, that was read to its end.
type whole api.Shape

func (whole) err() api.Errno { return api.OK }

// wrong is the first thing that is wrong with the bytes.
type wrong api.Errno

func (w wrong) err() api.Errno { return api.Errno(w) }

// outcome is the result of a call that tells an error beside its shape.
func outcome(s api.Shape, err api.Errno) result {
	if err != api.OK {
		return wrong(err)
	}
	return whole(s)
}

// reader reads bytes from the first one on. Its points and parts count what it reads, up to as many as a shape may have; false: there are more.
type reader struct {
	rest   []byte
	points func(n int) bool
	parts  func(n int) bool
}

// over is a reader of b that has counted nothing yet.
func over(b []byte) *reader {
	return &reader{rest: b, points: upTo(shape.MaxPoints), parts: upTo(shape.MaxParts)}
}

// upTo counts on with each call; false: that would be more than most, in all.
func upTo(most int) func(n int) bool {
	left := most
	return func(n int) bool {
		if n > left {
			return false
		}
		left -= n
		return true
	}
}

// taken is the shape of a result; beside an error there is none.
func taken(found result) (api.Shape, api.Errno) {
	if s, ok := found.(whole); ok {
		return api.Shape(s), api.OK
	}
	return api.Shape{}, found.err()
}

// shape reads the shape that lies at a depth and has the kind that is wanted there. It calls itself for its parts, no deeper than shapes may be.
func (r *reader) shape(depth, wanted int) result {
	little, err := r.order(depth)
	if err != api.OK {
		return wrong(err)
	}
	kind, err := r.kind(wanted, little)
	if err != api.OK {
		return wrong(err)
	}
	s := api.Shape{Kind: kind}
	switch kind {
	case shape.Point:
		s.XY, err = r.spot(little)
	case shape.Line:
		s.XY, err = r.row(little)
	case shape.Polygon:
		s.Parts, err = r.list(fewestOfRing, little, func() result {
			return r.ring(little)
		})
	default:
		s.Parts, err = r.list(fewestOfPart, little, func() result {
			return r.shape(depth+1, shape.Part(kind))
		})
	}
	return outcome(s, err)
}

// ring reads a ring, which has no order and no Kind of its own.
func (r *reader) ring(little bool) result {
	l, err := r.row(little)
	return outcome(api.Shape{Kind: shape.Ring, XY: l}, err)
}

// order reads the order of a shape at that depth.
func (r *reader) order(depth int) (bool, api.Errno) {
	little, ok := Order(r.rest)
	switch {
	case len(r.rest) == 0:
		return false, api.ErrShort
	case !ok:
		return false, api.ErrBad
	case depth > api.MaxDepth:
		return false, api.ErrDeep
	}
	r.rest = r.rest[orderSize:]
	return little, api.OK
}

// kind reads a Kind, which is the one that is wanted.
func (r *reader) kind(wanted int, little bool) (int, api.Errno) {
	kind, err := r.number(numberSize, little)
	switch {
	case err != api.OK:
		return 0, err
	case kind < shape.Point || kind > shape.Collection:
		return 0, api.ErrBad
	case wanted != anyKind && kind != wanted:
		return 0, api.ErrBad
	}
	return kind, api.OK
}

// list reads how many parts there are, of so many bytes at least, and each of them.
func (r *reader) list(fewest int, little bool, next func() result) ([]api.Shape, api.Errno) {
	n, err := r.count(r.parts, fewest, little)
	if err != api.OK {
		return nil, err
	}
	l := make([]api.Shape, 0, n)
	for range n {
		s, err := taken(next())
		if err != api.OK {
			return nil, err
		}
		l = append(l, s)
	}
	return l, api.OK
}

// row reads how many points there are, and each of them.
func (r *reader) row(little bool) ([]api.Point, api.Errno) {
	n, err := r.count(r.points, pointSize, little)
	if err != api.OK {
		return nil, err
	}
	l := make([]api.Point, 0, n)
	for range n {
		p, err := r.point(little)
		if err != api.OK {
			return nil, err
		}
		l = append(l, p)
	}
	return l, api.OK
}

// spot reads the one point that a shape of Kind Point has, or none.
func (r *reader) spot(little bool) ([]api.Point, api.Errno) {
	p, err := r.point(little)
	switch {
	case err != api.OK:
		return nil, err
	case p == nowhere():
		return nil, api.OK
	case !r.points(1):
		return nil, api.ErrLong
	}
	return []api.Point{p}, api.OK
}

// count reads how many there are, which are told to the tally, and for which there have to be bytes enough.
func (r *reader) count(tally func(n int) bool, fewest int, little bool) (int, api.Errno) {
	n, err := r.number(numberSize, little)
	switch {
	case err != api.OK:
		return 0, err
	case !tally(n):
		return 0, api.ErrLong
	case n > len(r.rest)/fewest:
		return 0, api.ErrShort
	}
	return n, api.OK
}

// point reads two ordinates.
func (r *reader) point(little bool) (api.Point, api.Errno) {
	x, err := r.number(ordinateSize, little)
	if err != api.OK {
		return api.Point{}, err
	}
	y, err := r.number(ordinateSize, little)
	if err != api.OK {
		return api.Point{}, err
	}
	return api.Point{X: x, Y: y}, api.OK
}

// number reads a number of so many bytes; one of eight is a whole number from -2^63 on.
func (r *reader) number(size int, little bool) (int, api.Errno) {
	n, ok := octet.Get(r.rest, size, little)
	if !ok {
		return 0, api.ErrShort
	}
	r.rest = r.rest[size:]
	return int(n), api.OK
}
