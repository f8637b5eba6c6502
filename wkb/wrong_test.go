package wkb_test

import (
	"bytes"
	"fmt"
	"slices"
	"testing"

	"hachure/api"
	"hachure/wkb"
)

// What is handed in stays as it is; what is answered is new.

// roomy is a shape like s whose lists have room behind their ends, with points and parts in it.
func roomy(s api.Shape) api.Shape {
	xy := append(slices.Clone(s.XY), at(77, 78), at(79, 80))
	parts := make([]api.Shape, 0, len(s.Parts)+2)
	for _, p := range s.Parts {
		parts = append(parts, roomy(p))
	}
	parts = append(parts, point(at(81, 82)), polygon(ring(4)))
	return api.Shape{Kind: s.Kind, XY: xy[:len(s.XY)], Parts: parts[:len(s.Parts)]}
}

// allOf is the text of a shape and of the room behind its lists' ends.
func allOf(s api.Shape) string {
	out := fmt.Sprint(s.Kind, s.XY[:cap(s.XY)])
	for _, p := range s.Parts[:cap(s.Parts)] {
		out += "(" + allOf(p) + ")"
	}
	return out
}

func TestShapesAreNotChanged(t *testing.T) {
	shapes := []api.Shape{{}, point(), rich(), ring(4), under(20, rich()), polygon(ring(4), ring(3)), line(row(1)...), point(at(nowhere, nowhere))}
	for _, s := range shapes {
		s = roomy(s)
		ahead := allOf(s)
		wkb.Encode(s, true)
		wkb.Encode(s, false)
		wkb.Size(s)
		if allOf(s) != ahead {
			t.Errorf("%s has changed", ahead)
		}
	}
}

// Bytes that were answered may be written over, and written on: no other answer is touched.
func TestBytesAreNew(t *testing.T) {
	s := rich()
	for _, little := range orders() {
		want := spelt(s, always(little))
		first, second := wkb.Encode(s, little), wkb.Encode(s, little)
		for _, b := range [][]byte{first, append(first, many(500, byte(7))...)} {
			b = b[:cap(b)]
			for i := range b {
				b[i] = 99
			}
		}
		if !bytes.Equal(second, want) || !bytes.Equal(wkb.Encode(s, little), want) {
			t.Error("an answer has changed with another one")
		}
	}
}

// The bytes may be changed behind the call.
func TestBytesAreNotKept(t *testing.T) {
	want := text(rich())
	b := spelt(rich(), turning(true))
	decoded, _, err := wkb.Decode(b)
	if err != api.OK {
		t.Fatal(err)
	}
	whole, err := wkb.Read(b)
	if err != api.OK {
		t.Fatal(err)
	}
	for i := range b {
		b[i] ^= 255
	}
	if text(decoded) != want || text(whole) != want {
		t.Error("a shape has changed with its bytes")
	}
}

// lists is a way to each list of points, and to each of parts, that s has.
func lists(s *api.Shape) (xy []*[]api.Point, parts []*[]api.Shape) {
	xy, parts = append(xy, &s.XY), append(parts, &s.Parts)
	for i := range s.Parts {
		a, b := lists(&s.Parts[i])
		xy, parts = append(xy, a...), append(parts, b...)
	}
	return xy, parts
}

// No two lists of a shape share any memory, the room behind their ends too.
func TestListsShareNothing(t *testing.T) {
	b := spelt(rich(), turning(false))
	fresh := func() (*api.Shape, []*[]api.Point, []*[]api.Shape) {
		s, err := wkb.Read(b)
		if err != api.OK {
			t.Fatal(err)
		}
		xy, parts := lists(&s)
		return &s, xy, parts
	}
	_, allPoints, allParts := fresh()
	for i := range allPoints {
		s, xy, _ := fresh()
		want := *xy[i]
		*xy[i] = nil
		ahead := text(*s)
		want = append(want, at(5, 5))
		for j := range want[:cap(want)] {
			want[:cap(want)][j] = at(-7, -7)
		}
		if text(*s) != ahead {
			t.Errorf("list %d of points is another one's, too", i)
		}
	}
	for i := range allParts {
		s, _, parts := fresh()
		l := *parts[i]
		*parts[i] = nil
		ahead := text(*s)
		l = append(l, ring(4))
		for j := range l[:cap(l)] {
			l[:cap(l)][j] = line(at(-7, -7))
		}
		if text(*s) != ahead {
			t.Errorf("list %d of parts is another one's, too", i)
		}
	}
}

// What a call answers hangs on what it is given alone, not on what was asked ahead.
func TestAnswersAreTheSameAgain(t *testing.T) {
	good, long := spelt(rich(), turning(false)), headed(true, aLine, mostPoints+1)
	for range 3 {
		wantShape(t, "again", good, rich())
		wantWrong(t, "again, too long", long, api.ErrLong)
		wantWrong(t, "again, cut", good[:len(good)-1], api.ErrShort)
		wantEncode(t, "again", rich(), true, spelt(rich(), always(true)))
		wantNothing(t, "again, a ring", ring(4))
	}
	// Points and parts that were read by other calls do not count.
	full := lineBytes(true, row(mostPoints)...)
	for range 3 {
		wantShape(t, "all points that may be, again", full, line(row(mostPoints)...))
	}
}

// Bytes behind a shape are not gone over, be they ever so many.
func TestDecodeLeavesWhatIsBehind(t *testing.T) {
	b := append(pointBytes(true, at(1, 2)), make([]byte, 1<<26)...)
	for range 20000 {
		if s, n, err := wkb.Decode(b); err != api.OK || n != 21 || text(s) != text(point(at(1, 2))) {
			t.Fatalf("%s, %d, %s", text(s), n, err)
		}
	}
}
