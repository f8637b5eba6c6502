package wkb_test

import (
	"bytes"
	"encoding/binary"
	"fmt"
	"math"
	"slices"
	"testing"

	"hachure/api"
	"hachure/shape"
	"hachure/wkb"
)

// Numbers by the documents' words.
const (
	deepest    = 16
	mostPoints = 4000
	mostParts  = 1000
	nowhere    = math.MinInt
)

// The kinds, by the documents' words.
const (
	aRing = iota
	aPoint
	aLine
	aPolygon
	aMultiPoint
	aMultiLine
	aMultiPolygon
	aCollection
)

// orders is both of them: the greatest byte first, and the lowest.
func orders() []bool {
	return []bool{false, true}
}

// at is a point that is known by its place.
func at(x, y int) api.Point {
	return api.Point{X: x, Y: y}
}

// row is n points, each another one.
func row(n int) []api.Point {
	var l []api.Point
	for i := range n {
		l = append(l, at(i+1, -10*i-1))
	}
	return l
}

// round is n points, the last of which is the first.
func round(n int) []api.Point {
	l := row(n)
	l[n-1] = l[0]
	return l
}

func point(xy ...api.Point) api.Shape {
	return api.Shape{Kind: aPoint, XY: xy}
}

func line(xy ...api.Point) api.Shape {
	return api.Shape{Kind: aLine, XY: xy}
}

func ring(n int) api.Shape {
	return api.Shape{Kind: aRing, XY: round(n)}
}

func polygon(rings ...api.Shape) api.Shape {
	return of(aPolygon, rings...)
}

func collection(parts ...api.Shape) api.Shape {
	return of(aCollection, parts...)
}

// of is a shape of these parts.
func of(kind int, parts ...api.Shape) api.Shape {
	return api.Shape{Kind: kind, Parts: parts}
}

// under is s in n collections, one in the other.
func under(n int, s api.Shape) api.Shape {
	for range n {
		s = collection(s)
	}
	return s
}

// many is n things that are alike.
func many[T any](n int, s T) []T {
	return slices.Repeat([]T{s}, n)
}

// rich is a shape that may be, of all kinds.
func rich() api.Shape {
	return collection(
		point(), point(at(1, 2)), line(), line(at(3, 4), at(5, 6)), line(row(7)...),
		polygon(), polygon(ring(4)), polygon(ring(5), ring(9)),
		of(aMultiPoint), of(aMultiPoint, point(), point(at(-1, -2))),
		of(aMultiLine), of(aMultiLine, line(), line(row(2)...)),
		of(aMultiPolygon), of(aMultiPolygon, polygon(), polygon(ring(6))),
		collection(), collection(collection(point(at(math.MaxInt, math.MinInt+1)))),
	)
}

// Bytes of shapes, spelt by the chapter's words.

// num is n in so many bytes.
func num(n uint64, size int, little bool) []byte {
	if little {
		return binary.LittleEndian.AppendUint64(nil, n)[:size]
	}
	return binary.BigEndian.AppendUint64(nil, n)[8-size:]
}

// head is the byte of order and the Kind.
func head(little bool, kind uint64) []byte {
	order := byte(0)
	if little {
		order = 1
	}
	return append([]byte{order}, num(kind, 4, little)...)
}

// headed is a head, and how many there are.
func headed(little bool, kind, n uint64) []byte {
	return append(head(little, kind), num(n, 4, little)...)
}

// places is the ordinates of points.
func places(little bool, l ...api.Point) []byte {
	var out []byte
	for _, p := range l {
		out = append(out, num(uint64(p.X), 8, little)...)
		out = append(out, num(uint64(p.Y), 8, little)...)
	}
	return out
}

// pointBytes is a point's; without one it is nowhere.
func pointBytes(little bool, xy ...api.Point) []byte {
	if len(xy) == 0 {
		xy = []api.Point{at(nowhere, nowhere)}
	}
	return append(head(little, aPoint), places(little, xy...)...)
}

func lineBytes(little bool, xy ...api.Point) []byte {
	return append(headed(little, aLine, uint64(len(xy))), places(little, xy...)...)
}

func polygonBytes(little bool, rings ...[]api.Point) []byte {
	out := headed(little, aPolygon, uint64(len(rings)))
	for _, l := range rings {
		out = append(out, num(uint64(len(l)), 4, little)...)
		out = append(out, places(little, l...)...)
	}
	return out
}

// partsBytes is a shape's whose parts have these bytes.
func partsBytes(little bool, kind uint64, parts ...[]byte) []byte {
	return append(headed(little, kind, uint64(len(parts))), slices.Concat(parts...)...)
}

// underBytes is b in n collections, one in the other.
func underBytes(little bool, n int, b []byte) []byte {
	for range n {
		b = partsBytes(little, aCollection, b)
	}
	return b
}

// spelt is the bytes of s, each part in the order that is told next.
func spelt(s api.Shape, order func() bool) []byte {
	little := order()
	switch s.Kind {
	case aPoint:
		return pointBytes(little, s.XY...)
	case aLine:
		return lineBytes(little, s.XY...)
	case aPolygon:
		var rings [][]api.Point
		for _, r := range s.Parts {
			rings = append(rings, r.XY)
		}
		return polygonBytes(little, rings...)
	}
	var parts [][]byte
	for _, p := range s.Parts {
		parts = append(parts, spelt(p, order))
	}
	return partsBytes(little, uint64(s.Kind), parts...)
}

// always is the same order, time and again.
func always(little bool) func() bool {
	return func() bool { return little }
}

// turning is another order each time.
func turning(first bool) func() bool {
	next := !first
	return func() bool {
		next = !next
		return next
	}
}

// What is wanted.

// guarded is b with other bytes in the room behind its end.
func guarded(b []byte) []byte {
	return slices.Concat(b, many(40, byte(0)), many(40, byte(201)))[:len(b)]
}

// wantEncode asks for just these bytes.
func wantEncode(t *testing.T, what string, s api.Shape, little bool, want []byte) {
	t.Helper()
	if got := wkb.Encode(s, little); !bytes.Equal(got, want) {
		t.Errorf("%s: Encode(little %v): %.100x, want %.100x", what, little, got, want)
	}
	if got := wkb.Size(s); got != len(want) {
		t.Errorf("%s: Size: %d, want %d", what, got, len(want))
	}
}

// wantNothing asks for a shape without bytes.
func wantNothing(t *testing.T, what string, s api.Shape) {
	t.Helper()
	for _, little := range orders() {
		wantEncode(t, what, s, little, nil)
	}
}

// zero says whether a shape is the zero value.
func zero(s api.Shape) bool {
	return s.Kind == 0 && len(s.XY) == 0 && len(s.Parts) == 0
}

// text is all of a shape, so that two are alike just if their texts are.
func text(s api.Shape) string {
	return fmt.Sprint(s)
}

// wantShape asks b for that shape, with bytes behind it and without; nothing else is changed.
func wantShape(t *testing.T, what string, b []byte, want api.Shape) {
	t.Helper()
	for _, behind := range [][]byte{nil, {0}, {1, 1, 0, 0, 0}, many(100, byte(255))} {
		all := guarded(slices.Concat(b, behind))
		ahead := slices.Clone(all[:cap(all)])
		s, n, err := wkb.Decode(all)
		if err != api.OK || n != len(b) || text(s) != text(want) {
			t.Errorf("%s, %d bytes behind: Decode: %.300s, %d, %s, want %.300s, %d", what, len(behind), text(s), n, err, text(want), len(b))
		}
		s, err = wkb.Read(all)
		if len(behind) == 0 && (err != api.OK || text(s) != text(want)) {
			t.Errorf("%s: Read: %.300s, %s, want %.300s", what, text(s), err, text(want))
		}
		if len(behind) > 0 && (err != api.ErrBad || !zero(s)) {
			t.Errorf("%s, %d bytes behind: Read: %.300s, %s", what, len(behind), text(s), err)
		}
		if !bytes.Equal(all[:cap(all)], ahead) {
			t.Errorf("%s: the bytes have changed", what)
		}
	}
}

// wantWrong asks for that error of b, and for nothing beside it.
func wantWrong(t *testing.T, what string, b []byte, want api.Errno) {
	t.Helper()
	b = guarded(b)
	ahead := slices.Clone(b[:cap(b)])
	if s, n, err := wkb.Decode(b); err != want || n != 0 || !zero(s) {
		t.Errorf("%s: Decode: %.300s, %d, %s, want %s", what, text(s), n, err, want)
	}
	if s, err := wkb.Read(b); err != want || !zero(s) {
		t.Errorf("%s: Read: %.300s, %s, want %s", what, text(s), err, want)
	}
	if !bytes.Equal(b[:cap(b)], ahead) {
		t.Errorf("%s: the bytes have changed", what)
	}
}

// dice tells numbers that are the same in each run.
type dice struct{ seed uint64 }

func (d *dice) under(n int) int {
	d.seed ^= d.seed << 13
	d.seed ^= d.seed >> 7
	d.seed ^= d.seed << 17
	return int(d.seed>>33) % n
}

// order is one of both.
func (d *dice) order() bool {
	return d.under(2) == 0
}

// thrown is a dice that was shaken, since seeds that are near tell the same at first.
func thrown(seed int) *dice {
	d := &dice{uint64(seed)*2654435761 + 1}
	for range 10 {
		d.under(2)
	}
	return d
}

func (d *dice) points(n int) []api.Point {
	var l []api.Point
	for range n {
		l = append(l, at(d.ordinate(), d.ordinate()))
	}
	return l
}

// ordinate is one that a point may have, seldom one at the ends.
func (d *dice) ordinate() int {
	switch d.under(8) {
	case 0:
		return []int{nowhere + 1, math.MaxInt, -1, 0, 1 << 62, 255, 256}[d.under(7)]
	case 1:
		return d.under(1<<30)<<30 - d.under(1<<30)
	}
	return d.under(200) - 100
}

// shape is one of that kind that may be.
func (d *dice) shape(kind, size int) api.Shape {
	s := api.Shape{Kind: kind}
	switch kind {
	case aRing:
		s.XY = d.points(3 + d.under(4))
		s.XY = append(s.XY, s.XY[0])
	case aPoint:
		s.XY = d.points(d.under(2))
	case aLine:
		s.XY = d.points([]int{0, 2, 3, 9}[d.under(4)])
	default:
		for size > 1 && d.under(6) > 0 {
			part, own := 1+d.under(size-1), shape.Part(kind)
			if kind == aCollection {
				own = 1 + d.under(7)
			}
			s.Parts = append(s.Parts, d.shape(own, part))
			size -= part
		}
	}
	return s
}
