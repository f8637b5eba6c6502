package blob_test

import (
	"bytes"
	"testing"

	"hachure/api"
	"hachure/blob"
)

// P16.1: the form of a blob, Make.

// The chapter's example.
func TestExample(t *testing.T) {
	want := []byte{'G', 'P', 0, 0, 0, 0, 16, 230,
		0, 0, 0, 0, 1, 0, 0, 0, 0, 0, 0, 0, 1, 0, 0, 0, 0, 0, 0, 0, 2}
	wantMake(t, "a point 1 2", point(at(1, 2)), 4326, false, false, want)
	wantBlob(t, "a point 1 2", want, blob.Head{Srs: 4326, Box: api.Box{None: true}}, point(at(1, 2)))
}

// A head byte by byte, in either order, boxed or not.
func TestMakeByteByByte(t *testing.T) {
	s := line(at(-2, 0x0102), at(3, -1))
	for _, c := range []struct {
		lowest, withBox bool
		head            []byte
	}{
		{false, false, []byte{71, 80, 0, 0, 255, 255, 255, 254}},
		{true, false, []byte{71, 80, 0, 1, 254, 255, 255, 255}},
		{false, true, []byte{71, 80, 0, 2, 255, 255, 255, 254,
			255, 255, 255, 255, 255, 255, 255, 254, 0, 0, 0, 0, 0, 0, 0, 3,
			255, 255, 255, 255, 255, 255, 255, 255, 0, 0, 0, 0, 0, 0, 1, 2}},
		{true, true, []byte{71, 80, 0, 3, 254, 255, 255, 255,
			254, 255, 255, 255, 255, 255, 255, 255, 3, 0, 0, 0, 0, 0, 0, 0,
			255, 255, 255, 255, 255, 255, 255, 255, 2, 1, 0, 0, 0, 0, 0, 0}},
	} {
		wantMake(t, "a line", s, -2, c.lowest, c.withBox, append(c.head, spelt(s, always(c.lowest))...))
	}
}

func TestMakeOfEachKind(t *testing.T) {
	for _, s := range all() {
		for _, lowest := range both() {
			for _, withBox := range both() {
				for _, srs := range systems() {
					wantMake(t, text(s.Kind), s, srs, lowest, withBox, speltBlob(s, srs, lowest, withBox))
				}
			}
		}
	}
}

// What has no points is not boxed, even if that is asked.
func TestMakeOfEmptyShapes(t *testing.T) {
	for _, s := range hollow() {
		for _, withBox := range both() {
			wantMake(t, "empty", s, 4326, false, withBox, append([]byte{71, 80, 0, 16, 0, 0, 16, 230}, spelt(s, always(false))...))
			wantMake(t, "empty", s, 4326, true, withBox, append([]byte{71, 80, 0, 17, 230, 16, 0, 0}, spelt(s, always(true))...))
		}
	}
}

// A box of a point has no sides; it is a box all the same, at 0 0, too.
func TestMakeOfBoxesWithoutSides(t *testing.T) {
	for _, p := range []api.Point{{}, at(5, -6), at(most, least+1)} {
		want := append(head(boxed, 7, p.X, p.X, p.Y, p.Y), spelt(point(p), always(false))...)
		wantMake(t, "a point", point(p), 7, false, true, want)
	}
}

func TestMakeOfTheEndsOfReferenceSystems(t *testing.T) {
	s := point(at(1, 2))
	for _, c := range []struct {
		srs    int
		lowest bool
		want   []byte
	}{
		{-1 << 31, false, []byte{128, 0, 0, 0}}, {-1 << 31, true, []byte{0, 0, 0, 128}},
		{1<<31 - 1, false, []byte{127, 255, 255, 255}}, {1<<31 - 1, true, []byte{255, 255, 255, 127}},
		{-1, false, []byte{255, 255, 255, 255}}, {0x01020304, true, []byte{4, 3, 2, 1}},
	} {
		if got := blob.Make(s, c.srs, c.lowest, true); len(got) != fullSize+21 || !bytes.Equal(got[4:8], c.want) {
			t.Errorf("Make(srs %d, little %v): %v", c.srs, c.lowest, got)
		}
	}
}

func TestMakeOfReferenceSystemsThatMayNotBe(t *testing.T) {
	for _, srs := range beyond() {
		for _, lowest := range both() {
			for _, withBox := range both() {
				for _, s := range []api.Shape{point(at(1, 2)), point(), rich()} {
					wantMake(t, "such a reference system", s, srs, lowest, withBox, nil)
				}
				for _, s := range unsound() {
					wantMake(t, "such a reference system, and a shape that may not be", s, srs, lowest, withBox, nil)
				}
			}
		}
	}
}

func TestMakeOfShapesThatMayNotBe(t *testing.T) {
	wrongs := []api.Shape{{}, {Kind: 8}, {Kind: -1}, ring(4), polygon(ring(3)), of(aMultiPoint, line()), collection(ring(4)),
		{Kind: aLine, Parts: many(1, point())}, point(row(2)...), point(at(nowhere, 0)), point(at(nowhere, nowhere)), collection(many(mostParts+1, point())...)}
	for _, s := range unsound() {
		wrongs = append(wrongs, s)
	}
	for _, s := range wrongs {
		for _, lowest := range both() {
			for _, withBox := range both() {
				wantMake(t, "a shape that may not be", s, 4326, lowest, withBox, nil)
			}
		}
	}
}

// Shapes that have as much as they may are made, and opened.
func TestMakeOfTheGreatestShapes(t *testing.T) {
	for what, s := range map[string]api.Shape{
		"points": line(row(mostPoints)...), "parts": collection(many(mostParts, point(at(1, 2)))...), "rings": polygon(many(mostParts, ring(4))...), "depth": under(deepest-4, rich()),
	} {
		for _, lowest := range both() {
			want := speltBlob(s, -5, lowest, true)
			wantMake(t, what, s, -5, lowest, true, want)
			wantBlob(t, what, want, headOf(s, -5, lowest, true), s)
		}
	}
}

// Lists that are nil and such as are empty make the same.
func TestMakeOfNilAndEmptyLists(t *testing.T) {
	for kind := aPoint; kind <= aCollection; kind++ {
		want := speltBlob(api.Shape{Kind: kind}, 1, true, true)
		wantMake(t, "empty lists", api.Shape{Kind: kind, XY: []api.Point{}, Parts: []api.Shape{}}, 1, true, true, want)
		wantMake(t, "lists with room", api.Shape{Kind: kind, XY: row(3)[:0], Parts: many(3, point())[:0]}, 1, true, true, want)
	}
}

// Answers may be written over, and written on: no other answer, and nothing that was handed in, is touched.
func TestAnswersAreNew(t *testing.T) {
	s := rich()
	b := speltBlob(s, 9, false, true)
	again := speltBlob(s, 10, false, true)
	calls := map[string]func() []byte{
		"Make":  func() []byte { return blob.Make(s, 9, false, true) },
		"Canon": func() []byte { out, _ := blob.Canon(b); return out },
		"Retag": func() []byte { out, _ := blob.Retag(b, 10); return out },
	}
	for what, call := range calls {
		want := b
		if what == "Retag" {
			want = again
		}
		first, second := call(), call()
		for i := range first[:cap(first)] {
			first[:cap(first)][i] = 99
		}
		if !bytes.Equal(second, want) || !bytes.Equal(call(), want) || !bytes.Equal(b, speltBlob(s, 9, false, true)) {
			t.Errorf("%s: answers share memory", what)
		}
	}
}

// A shape that was opened is its own: changed, it changes neither bytes nor another one.
func TestShapesAreNew(t *testing.T) {
	s := collection(line(row(3)...), polygon(ring(4)), of(aMultiPoint, point(at(1, 2))))
	b := speltBlob(s, 9, false, true)
	_, first, _ := blob.Open(b)
	_, second, _ := blob.Open(b)
	spoil(first)
	if text(second) != text(s) || !bytes.Equal(b, speltBlob(s, 9, false, true)) {
		t.Error("shapes share memory")
	}
	clear(b)
	if text(second) != text(s) {
		t.Error("a shape shares memory with its bytes")
	}
}

// spoil changes all of a shape, the room behind its lists too.
func spoil(s api.Shape) {
	for i := range s.Parts {
		spoil(s.Parts[i])
	}
	xy, parts := s.XY[:cap(s.XY)], s.Parts[:cap(s.Parts)]
	for i := range xy {
		xy[i] = at(-99, -99)
	}
	for i := range parts {
		parts[i] = api.Shape{Kind: 99}
	}
}
