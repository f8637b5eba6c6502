package wkb_test

import (
	"bytes"
	"encoding/binary"
	"math"
	"slices"
	"testing"

	"hachure/api"
	"hachure/shape"
	"hachure/wkb"
)

// model reads bytes one by one, by the chapter's words; what is wrong goes up by panic.
type model struct {
	b      []byte
	at     int
	points int
	parts  int
}

// read is what Decode has to tell of b.
func read(b []byte) (s api.Shape, n int, err api.Errno) {
	defer func() {
		if e, ok := recover().(api.Errno); ok {
			s, n, err = api.Shape{}, 0, e
		}
	}()
	m := &model{b: b}
	s = m.shape(1, aPoint, aLine, aPolygon, aMultiPoint, aMultiLine, aMultiPolygon, aCollection)
	m.refuse(shape.Check(s) != api.OK, shape.Check(s))
	return s, m.at, api.OK
}

// refuse ends the reading, if it is wrong.
func (m *model) refuse(wrong bool, err api.Errno) {
	if wrong {
		panic(err)
	}
}

func (m *model) take(n int) []byte {
	m.refuse(n > len(m.b)-m.at, api.ErrShort)
	m.at += n
	return m.b[m.at-n : m.at]
}

func (m *model) four(little bool) int {
	if little {
		return int(binary.LittleEndian.Uint32(m.take(4)))
	}
	return int(binary.BigEndian.Uint32(m.take(4)))
}

func (m *model) ordinate(little bool) int {
	if little {
		return int(binary.LittleEndian.Uint64(m.take(8)))
	}
	return int(binary.BigEndian.Uint64(m.take(8)))
}

// shape is one whose Kind may be one of these.
func (m *model) shape(depth int, may ...int) api.Shape {
	order := m.take(1)[0]
	m.refuse(order > 1, api.ErrBad)
	m.refuse(depth == deepest+1, api.ErrDeep)
	little := order == 1
	s := api.Shape{Kind: m.four(little)}
	m.refuse(!slices.Contains(may, s.Kind), api.ErrBad)
	switch s.Kind {
	case aPoint:
		m.refuse(len(m.b)-m.at < 16, api.ErrShort)
		x, y := m.ordinate(little), m.ordinate(little)
		if x != nowhere || y != nowhere {
			s.XY = []api.Point{at(x, y)}
			m.points++
			m.refuse(m.points > mostPoints, api.ErrLong)
		}
	case aLine:
		s.XY = m.row(little)
	default:
		n := m.four(little)
		m.parts += n
		m.refuse(m.parts > mostParts, api.ErrLong)
		each := 9
		if s.Kind == aPolygon {
			each = 4
		}
		m.refuse(n*each > len(m.b)-m.at, api.ErrShort)
		for range n {
			s.Parts = append(s.Parts, m.part(s.Kind, depth, little))
		}
	}
	return s
}

func (m *model) part(kind, depth int, little bool) api.Shape {
	switch kind {
	case aPolygon:
		return api.Shape{XY: m.row(little)}
	case aCollection:
		return m.shape(depth+1, aPoint, aLine, aPolygon, aMultiPoint, aMultiLine, aMultiPolygon, aCollection)
	}
	return m.shape(depth+1, kind-3)
}

func (m *model) row(little bool) []api.Point {
	n := m.four(little)
	m.points += n
	m.refuse(m.points > mostPoints, api.ErrLong)
	m.refuse(n*16 > len(m.b)-m.at, api.ErrShort)
	var l []api.Point
	for range n {
		x, y := m.ordinate(little), m.ordinate(little)
		l = append(l, at(x, y))
	}
	return l
}

// wantModel holds Decode and Read to the model, and what was read to P14.3.
func wantModel(t *testing.T, b []byte) api.Errno {
	t.Helper()
	b = guarded(b)
	want, wantSize, wantErr := read(b)
	s, n, err := wkb.Decode(b)
	if err != wantErr || n != wantSize || text(s) != text(want) {
		t.Fatalf("Decode of %.300x: %.300s, %d, %s, want %.300s, %d, %s", b, text(s), n, err, text(want), wantSize, wantErr)
	}
	if wantErr == api.OK && wantSize < len(b) {
		want, wantErr = api.Shape{}, api.ErrBad
	}
	if again, err := wkb.Read(b); err != wantErr || text(again) != text(want) {
		t.Fatalf("Read of %.300x: %.300s, %s, want %.300s, %s", b, text(again), err, text(want), wantErr)
	}
	if err == api.OK {
		wantAsMany(t, s, n)
	}
	return err
}

// wantAsMany asks for P14.3: a shape that was read has as many bytes again in either order, and is read from them.
func wantAsMany(t *testing.T, s api.Shape, n int) {
	t.Helper()
	if wkb.Size(s) != n {
		t.Fatalf("Size of %.300s: %d, want %d", text(s), wkb.Size(s), n)
	}
	for _, little := range orders() {
		b := wkb.Encode(s, little)
		again, err := wkb.Read(b)
		if len(b) != n || err != api.OK || !shape.Equal(s, again) || text(s) != text(again) {
			t.Fatalf("%.300s, encoded again (little %v): %d bytes, want %d; they are %.300s, %s", text(s), little, len(b), n, text(again), err)
		}
	}
}

// spoilt is b with something else in it.
func (d *dice) spoilt(b []byte) []byte {
	b = slices.Clone(b)
	i := d.under(len(b))
	switch d.under(7) {
	case 0:
		return b[:i]
	case 1:
		return slices.Insert(b, i, byte(d.under(256)))
	case 2:
		return slices.Delete(b, i, min(i+1+d.under(9), len(b)))
	case 3:
		b[i] = byte(d.under(10))
	case 4:
		b[i] ^= 1 << d.under(8)
	case 5:
		far := []uint64{0, 1, 2, 3, 4, 5, 6, 7, 8, 999, 1000, 1001, 3999, 4000, 4001, 1 << 16, 1 << 31, math.MaxUint32}
		copy(b[i:], num(far[d.under(len(far))], 4, d.order()))
	case 6:
		copy(b[i:], pointBytes(d.order())[5:13])
	}
	return b
}

// tower is bytes in many others, about as many as there may be.
func (d *dice) tower(b []byte) []byte {
	for range deepest - 3 + d.under(5) {
		parts := [][]byte{b}
		if d.under(3) == 0 {
			parts = slices.Insert(parts, d.under(2), spelt(d.shape(1+d.under(7), 3), d.order))
		}
		b = partsBytes(d.order(), aCollection, parts...)
	}
	return b
}

// crowd is bytes of about as many points or parts as there may be.
func (d *dice) crowd() []byte {
	if d.under(2) == 0 {
		parts := many(mostParts-5-d.under(300), lineBytes(d.order()))
		for range d.under(40) {
			parts[d.under(len(parts))] = spelt(d.shape(1+d.under(7), 12), d.order)
		}
		return partsBytes(d.order(), aCollection, parts...)
	}
	parts := many(d.under(8), pointBytes(d.order(), at(1, 2)))
	parts = append(parts, lineBytes(d.order(), row(mostPoints-5-d.under(5))...))
	for range d.under(8) {
		parts = append(parts, spelt(d.shape(1+d.under(7), 3), d.order))
	}
	return partsBytes(d.order(), aCollection, parts...)
}

func TestThrownBytes(t *testing.T) {
	told := map[api.Errno]int{}
	for seed := range 4000 {
		d := thrown(seed)
		b := spelt(d.shape(1+d.under(7), 1+d.under(20)), d.order)
		switch {
		case seed%60 == 0:
			b = d.crowd()
		case seed%5 == 0:
			b = d.tower(b)
		}
		told[wantModel(t, b)]++
		for range 6 {
			other := d.spoilt(b)
			told[wantModel(t, other)]++
			if len(other) > 0 {
				told[wantModel(t, d.spoilt(other))]++
			}
		}
	}
	for _, e := range []api.Errno{api.OK, api.ErrShort, api.ErrBad, api.ErrDeep, api.ErrLong, api.ErrRange} {
		if told[e] < 100 {
			t.Errorf("%s: %d times alone", e, told[e])
		}
	}
}

// Bytes that say nothing by their make.
func TestAnyBytes(t *testing.T) {
	for seed := range 20000 {
		d := thrown(seed)
		b := make([]byte, d.under(60))
		for i := range b {
			b[i] = byte(d.under(256))
			if d.under(3) > 0 {
				b[i] = byte(d.under(3))
			}
		}
		if len(b) >= 5 && d.under(4) > 0 {
			copy(b, head(d.order(), uint64(1+d.under(7))))
		}
		wantModel(t, b)
	}
}

// Each byte of some shapes is made another byte, and each of its bits is turned.
func TestEachByteIsAnother(t *testing.T) {
	others := []byte{0, 1, 2, 3, 4, 5, 6, 7, 8, 9, 15, 16, 127, 128, 255}
	for _, order := range []func() bool{always(false), always(true), turning(false)} {
		b := spelt(collection(point(at(1, 2)), point(), line(row(2)...), polygon(ring(4)), of(aMultiPoint, point()), of(aMultiLine, line()), collection(of(aMultiPolygon, polygon()))), order)
		wantModel(t, b)
		for i := range b {
			other := slices.Clone(b)
			for _, x := range others {
				other[i] = x
				wantModel(t, other)
			}
			for bit := range 8 {
				other[i] = b[i] ^ 1<<bit
				wantModel(t, other)
			}
		}
	}
}

// P14.3: Decode of Encode is the shape, in either order.
func TestDecodeOfEncode(t *testing.T) {
	for seed := range 3000 {
		d := thrown(seed)
		s := d.shape(1+d.under(7), 1+d.under(40))
		if err := shape.Check(s); err != api.OK {
			t.Fatalf("%s: %s", err, text(s))
		}
		for _, little := range orders() {
			b := wkb.Encode(s, little)
			if !bytes.Equal(b, spelt(s, always(little))) {
				t.Fatalf("Encode of %s (little %v): %x", text(s), little, b)
			}
			got, n, err := wkb.Decode(b)
			if err != api.OK || n != len(b) || !shape.Equal(got, s) {
				t.Fatalf("Decode of Encode of %s (little %v): %s, %d, %s", text(s), little, text(got), n, err)
			}
		}
		wantAsMany(t, s, wkb.Size(s))
	}
}

// P14.3: what is read, in whatever orders, is encoded again in one order as just as many bytes.
func TestEncodeOfDecode(t *testing.T) {
	for seed := range 1000 {
		d := thrown(seed)
		b := spelt(d.shape(1+d.under(7), 1+d.under(40)), d.order)
		s, n, err := wkb.Decode(b)
		if err != api.OK || n != len(b) {
			t.Fatalf("Decode of %x: %d, %s", b, n, err)
		}
		wantAsMany(t, s, n)
	}
}

// Whatever bytes are given, the model tells the same.
func FuzzDecode(f *testing.F) {
	f.Add([]byte{})
	for _, first := range orders() {
		f.Add(spelt(rich(), turning(first)))
		f.Add(underBytes(first, deepest, pointBytes(first)))
		f.Add(headed(first, aLine, mostPoints+1))
	}
	f.Fuzz(func(t *testing.T, b []byte) { wantModel(t, b) })
}
