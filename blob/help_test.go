package blob_test

import (
	"bytes"
	"encoding/binary"
	"fmt"
	"math"
	"slices"
	"testing"

	"hachure/api"
	"hachure/blob"
)

// Numbers by the documents' words.
const (
	deepest    = 16
	mostPoints = 4000
	mostParts  = 1000
	nowhere    = math.MinInt
	least      = math.MinInt
	most       = math.MaxInt
	leastSrs   = math.MinInt32
	mostSrs    = math.MaxInt32
	// The flags, and how many bytes a head has.
	little, boxed, empty = 1, 2, 16
	bareSize, fullSize   = 8, 40
)

// The kinds, by the documents' words.
const (
	aRing = iota
	aPoint
	aLine
	aPolygon
	aMultiPoint
	aMultiLine
	aMultiPolygon
	aCollection
)

// both is a thing that is not, and one that is.
func both() []bool {
	return []bool{false, true}
}

// systems are reference systems, those at the ends among them.
func systems() []int {
	return []int{leastSrs, leastSrs + 1, -4326, -256, -1, 0, 1, 255, 256, 4326, 0x01020304, mostSrs - 1, mostSrs}
}

// beyond are numbers that no reference system has.
func beyond() []int {
	return []int{leastSrs - 1, mostSrs + 1, 1 << 32, 1<<32 + 4326, -1 << 32, -1<<32 - 1, least, most, least + 4326}
}

// at is a point that is known by its place.
func at(x, y int) api.Point {
	return api.Point{X: x, Y: y}
}

// row is n points, each another one.
func row(n int) []api.Point {
	var l []api.Point
	for i := range n {
		l = append(l, at(i+1, -10*i-1))
	}
	return l
}

func point(xy ...api.Point) api.Shape {
	return api.Shape{Kind: aPoint, XY: xy}
}

func line(xy ...api.Point) api.Shape {
	return api.Shape{Kind: aLine, XY: xy}
}

// ring is n points, the last of which is the first.
func ring(n int) api.Shape {
	l := row(n)
	l[n-1] = l[0]
	return api.Shape{Kind: aRing, XY: l}
}

func polygon(rings ...api.Shape) api.Shape {
	return of(aPolygon, rings...)
}

func collection(parts ...api.Shape) api.Shape {
	return of(aCollection, parts...)
}

// of is a shape of these parts.
func of(kind int, parts ...api.Shape) api.Shape {
	return api.Shape{Kind: kind, Parts: parts}
}

// under is s in n collections, one in the other.
func under(n int, s api.Shape) api.Shape {
	for range n {
		s = collection(s)
	}
	return s
}

// many is n things that are alike.
func many[T any](n int, s T) []T {
	return slices.Repeat([]T{s}, n)
}

// full are shapes of each kind that have points.
func full() []api.Shape {
	return []api.Shape{
		point(at(1, 2)), point(at(0, 0)), point(at(-1, -1)), point(at(least+1, most)), point(at(most, least+1)),
		line(at(1, 5), at(3, 2)), line(row(9)...), line(at(least+1, least+1), at(most, most)),
		polygon(ring(4)), polygon(ring(5), ring(9)),
		of(aMultiPoint, point(at(7, -8))), of(aMultiPoint, point(), point(at(-1, 260)), point(at(3, 4))),
		of(aMultiLine, line(), line(row(3)...)), of(aMultiPolygon, polygon(), polygon(ring(6)), polygon(ring(4), ring(4))),
		collection(point(at(5, 6))), collection(line(), collection(), collection(point(), of(aMultiPoint, point(at(0x0102030405060708, -0x0102030405060708))))),
		rich(), under(deepest-1, line(row(3)...)),
	}
}

// rich is a shape of all kinds.
func rich() api.Shape {
	return collection(
		point(), point(at(1, 2)), line(), line(at(3, 4), at(5, 6)), polygon(), polygon(ring(5), ring(9)),
		of(aMultiPoint), of(aMultiPoint, point(), point(at(-1, -2))), of(aMultiLine), of(aMultiLine, line(), line(row(2)...)),
		of(aMultiPolygon), of(aMultiPolygon, polygon(), polygon(ring(6))), collection(), collection(collection(point(at(-77, 88)))),
	)
}

// hollow are shapes of each kind that have none, whatever their parts are.
func hollow() []api.Shape {
	return []api.Shape{
		point(), line(), polygon(), of(aMultiPoint), of(aMultiLine), of(aMultiPolygon), collection(),
		of(aMultiPoint, point()), of(aMultiLine, line(), line()), of(aMultiPolygon, polygon()), collection(point(), polygon(), collection(of(aMultiPoint, point()))),
		under(deepest-1, point()), collection(many(mostParts, collection())...),
	}
}

// all are shapes that may be.
func all() []api.Shape {
	return append(full(), hollow()...)
}

// unsound are shapes that Check refuses, each for another error.
func unsound() map[api.Errno]api.Shape {
	return map[api.Errno]api.Shape{
		api.ErrDeep:  under(deepest, point(at(1, 2))),
		api.ErrLong:  line(row(mostPoints + 1)...),
		api.ErrBad:   line(at(1, 2)),
		api.ErrRange: line(at(1, 2), at(nowhere, 3)),
	}
}

// text is all of a thing, so that two are alike just if their texts are.
func text(s any) string {
	return fmt.Sprint(s)
}

// zero says whether a shape is the zero value.
func zero(s api.Shape) bool {
	return s.Kind == 0 && len(s.XY) == 0 && len(s.Parts) == 0
}

// Blobs, spelt by the chapters' words.

// num is n in so many bytes.
func num(n, size int, lowest bool) []byte {
	if lowest {
		return binary.LittleEndian.AppendUint64(nil, uint64(n))[:size]
	}
	return binary.BigEndian.AppendUint64(nil, uint64(n))[8-size:]
}

// nums is numbers of eight bytes.
func nums(lowest bool, l ...int) []byte {
	var out []byte
	for _, n := range l {
		out = append(out, num(n, 8, lowest)...)
	}
	return out
}

// spelt is the wkb of s, each part in the order that is told next.
func spelt(s api.Shape, order func() bool) []byte {
	lowest := order()
	out := append(num(0, 0, false), 0)
	if lowest {
		out[0] = 1
	}
	out = append(out, num(s.Kind, 4, lowest)...)
	switch s.Kind {
	case aPoint:
		if len(s.XY) == 0 {
			return append(out, nums(lowest, nowhere, nowhere)...)
		}
		return append(out, places(s.XY, lowest)...)
	case aLine:
		return slices.Concat(out, num(len(s.XY), 4, lowest), places(s.XY, lowest))
	}
	out = append(out, num(len(s.Parts), 4, lowest)...)
	for _, p := range s.Parts {
		if s.Kind == aPolygon {
			out = slices.Concat(out, num(len(p.XY), 4, lowest), places(p.XY, lowest))
		} else {
			out = append(out, spelt(p, order)...)
		}
	}
	return out
}

// places is the ordinates of points.
func places(l []api.Point, lowest bool) []byte {
	var out []byte
	for _, p := range l {
		out = append(out, nums(lowest, p.X, p.Y)...)
	}
	return out
}

// always is the same order, time and again.
func always(lowest bool) func() bool {
	return func() bool { return lowest }
}

// turning is another order each time.
func turning(first bool) func() bool {
	next := !first
	return func() bool {
		next = !next
		return next
	}
}

// head is a blob's up to its wkb, with the flags as they are given; l is Low.X, High.X, Low.Y, High.Y, or nothing.
func head(flags byte, srs int, l ...int) []byte {
	lowest := flags&little != 0
	return slices.Concat([]byte{'G', 'P', 0, flags}, num(srs, 4, lowest), nums(lowest, l...))
}

// corners is the ordinates of the box around a shape's points; nothing without any.
func corners(s api.Shape) []int {
	l := points(s)
	if len(l) == 0 {
		return nil
	}
	lowX, lowY, highX, highY := most, most, least, least
	for _, p := range l {
		lowX, highX = min(lowX, p.X), max(highX, p.X)
		lowY, highY = min(lowY, p.Y), max(highY, p.Y)
	}
	return []int{lowX, highX, lowY, highY}
}

// points is all points of a shape.
func points(s api.Shape) []api.Point {
	l := slices.Clone(s.XY)
	for _, p := range s.Parts {
		l = append(l, points(p)...)
	}
	return l
}

// around is the box of such ordinates; of nothing without any.
func around(l []int) api.Box {
	if len(l) == 0 {
		return api.Box{None: true}
	}
	return api.Box{Low: at(l[0], l[2]), High: at(l[1], l[3])}
}

// flagsOf is the flags of a blob.
func flagsOf(s api.Shape, lowest, withBox bool) byte {
	flags := byte(0)
	if lowest {
		flags = little
	}
	switch {
	case len(points(s)) == 0:
		flags += empty
	case withBox:
		flags += boxed
	}
	return flags
}

// headBytes is the head of a blob of s.
func headBytes(s api.Shape, srs int, lowest, withBox bool) []byte {
	if !withBox {
		return head(flagsOf(s, lowest, false), srs)
	}
	return head(flagsOf(s, lowest, true), srs, corners(s)...)
}

// speltBlob is a blob of s, in one order throughout.
func speltBlob(s api.Shape, srs int, lowest, withBox bool) []byte {
	return append(headBytes(s, srs, lowest, withBox), spelt(s, always(lowest))...)
}

// headOf is what such a blob's head says.
func headOf(s api.Shape, srs int, lowest, withBox bool) blob.Head {
	flags := flagsOf(s, lowest, withBox)
	h := blob.Head{Srs: srs, Little: lowest, Boxed: flags&boxed != 0, Empty: flags&empty != 0, Box: api.Box{None: true}}
	if h.Boxed {
		h.Box = around(corners(s))
	}
	return h
}

// What is wanted.

// guarded is b with other bytes in the room behind its end.
func guarded(b []byte) []byte {
	return append(slices.Clone(b), many(50, byte(201))...)[:len(b)]
}

// kept hands b to a call, and asks that it stays as it is, and the room behind it, too.
func kept(t *testing.T, what string, b []byte, call func(b []byte)) {
	t.Helper()
	b = guarded(b)
	ahead := slices.Clone(b[:cap(b)])
	call(b)
	if !bytes.Equal(b[:cap(b)], ahead) {
		t.Errorf("%s: the bytes have changed", what)
	}
}

// wantMake asks for just these bytes.
func wantMake(t *testing.T, what string, s api.Shape, srs int, lowest, withBox bool, want []byte) {
	t.Helper()
	ahead := text(s)
	if got := blob.Make(s, srs, lowest, withBox); !bytes.Equal(got, want) {
		t.Errorf("%s: Make(srs %d, little %v, boxed %v): %.100x, want %.100x", what, srs, lowest, withBox, got, want)
	}
	if text(s) != ahead {
		t.Errorf("%s: the shape has changed", what)
	}
}

// wantPeek asks for that head, of so many bytes.
func wantPeek(t *testing.T, what string, b []byte, want blob.Head, size int) {
	t.Helper()
	kept(t, what, b, func(b []byte) {
		if h, n, err := blob.Peek(b); err != api.OK || h != want || n != size {
			t.Errorf("%s: Peek: %v, %d, %s, want %v, %d", what, h, n, err, want, size)
		}
	})
}

// wantNoHead asks for that error of b, whatever is asked of it.
func wantNoHead(t *testing.T, what string, b []byte, want api.Errno) {
	t.Helper()
	kept(t, what, b, func(b []byte) {
		if h, n, err := blob.Peek(b); err != want || h != (blob.Head{}) || n != 0 {
			t.Errorf("%s: Peek: %v, %d, %s, want %s", what, h, n, err, want)
		}
	})
	wantWrong(t, what, b, want)
}

// wantWrong asks for that error of all calls that look at the whole of b.
func wantWrong(t *testing.T, what string, b []byte, want api.Errno) {
	t.Helper()
	kept(t, what, b, func(b []byte) {
		if h, s, err := blob.Open(b); err != want || h != (blob.Head{}) || !zero(s) {
			t.Errorf("%s: Open: %v, %.300s, %s, want %s", what, h, text(s), err, want)
		}
		if out, err := blob.Canon(b); err != want || len(out) != 0 {
			t.Errorf("%s: Canon: %.100x, %s, want %s", what, out, err, want)
		}
		if x, err := blob.Box(b); err != want || x != (api.Box{}) {
			t.Errorf("%s: Box: %v, %s, want %s", what, x, err, want)
		}
		for _, srs := range append(systems(), beyond()...) {
			if out, err := blob.Retag(b, srs); err != want || len(out) != 0 {
				t.Errorf("%s: Retag(%d): %.100x, %s, want %s", what, srs, out, err, want)
			}
		}
	})
}

// wantBlob asks for that head and that shape, and for all that follows from them.
func wantBlob(t *testing.T, what string, b []byte, want blob.Head, s api.Shape) {
	t.Helper()
	size := bareSize
	if want.Boxed {
		size = fullSize
	}
	wantPeek(t, what, b, want, size)
	kept(t, what, b, func(b []byte) {
		if h, got, err := blob.Open(b); err != api.OK || h != want || text(got) != text(s) {
			t.Errorf("%s: Open: %v, %.300s, %s, want %v, %.300s", what, h, text(got), err, want, text(s))
		}
		if x, err := blob.Box(b); err != api.OK || x != around(corners(s)) {
			t.Errorf("%s: Box: %v, %s, want %v", what, x, err, around(corners(s)))
		}
		canon := speltBlob(s, want.Srs, false, true)
		if out, err := blob.Canon(b); err != api.OK || !bytes.Equal(out, canon) {
			t.Errorf("%s: Canon: %.100x, %s, want %.100x", what, out, err, canon)
		}
		for _, srs := range systems() {
			tagged := slices.Concat(b[:4], num(srs, 4, want.Little), b[8:])
			if out, err := blob.Retag(b, srs); err != api.OK || !bytes.Equal(out, tagged) {
				t.Errorf("%s: Retag(%d): %.100x, %s, want %.100x", what, srs, out, err, tagged)
			}
		}
		for _, srs := range beyond() {
			if out, err := blob.Retag(b, srs); err != api.ErrArg || len(out) != 0 {
				t.Errorf("%s: Retag(%d): %.100x, %s", what, srs, out, err)
			}
		}
	})
}

// dice tells numbers that are the same in each run.
type dice struct{ seed uint64 }

func (d *dice) under(n int) int {
	d.seed ^= d.seed << 13
	d.seed ^= d.seed >> 7
	d.seed ^= d.seed << 17
	return int(d.seed>>33) % n
}

// is says so or so.
func (d *dice) is() bool {
	return d.under(2) == 0
}

// thrown is a dice that was shaken, since seeds that are near tell the same at first.
func thrown(seed int) *dice {
	d := &dice{uint64(seed)*2654435761 + 1}
	for range 10 {
		d.under(2)
	}
	return d
}

// points are some that may be, seldom such as have an ordinate at an end.
func (d *dice) points(n int) []api.Point {
	ordinate := func() int {
		if d.under(10) == 0 {
			return []int{least + 1, most, -1, 0, 1 << 40, -1 << 40}[d.under(6)]
		}
		return d.under(1000) - 500
	}
	var l []api.Point
	for range n {
		l = append(l, at(ordinate(), ordinate()))
	}
	return l
}

// shape is one that may be, of that kind.
func (d *dice) shape(kind, size int) api.Shape {
	s := api.Shape{Kind: kind}
	switch kind {
	case aRing:
		s.XY = d.points(3 + d.under(4))
		s.XY = append(s.XY, s.XY[0])
	case aPoint:
		s.XY = d.points(d.under(2))
	case aLine:
		s.XY = d.points([]int{0, 2, 3, 9}[d.under(4)])
	default:
		for size > 1 && d.under(6) > 0 {
			part, own := 1+d.under(size-1), map[int]int{aPolygon: aRing, aMultiPoint: aPoint, aMultiLine: aLine, aMultiPolygon: aPolygon, aCollection: 1 + d.under(7)}[kind]
			s.Parts = append(s.Parts, d.shape(own, part))
			size -= part
		}
	}
	return s
}

// system is a reference system.
func (d *dice) system() int {
	if d.is() {
		l := systems()
		return l[d.under(len(l))]
	}
	return d.under(1<<31) - d.under(1<<31)
}
