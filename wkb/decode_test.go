package wkb_test

import (
	"math"
	"slices"
	"testing"

	"hachure/api"
	"hachure/wkb"
)

// P14.2

func TestDecodeOfAllKinds(t *testing.T) {
	for what, s := range ofAllKinds() {
		for _, little := range orders() {
			wantShape(t, what, spelt(s, always(little)), s)
			wantShape(t, what+", its parts in other orders", spelt(s, turning(little)), s)
		}
	}
}

// Each part has its own order, whatever the one around it has.
func TestDecodeOfOrders(t *testing.T) {
	for a := range 8 {
		outer, mid, inner := a&1 > 0, a&2 > 0, a&4 > 0
		wantShape(t, "three orders",
			partsBytes(outer, aCollection, partsBytes(mid, aMultiPoint, pointBytes(inner, at(1, 2)), pointBytes(mid)), lineBytes(inner, row(2)...), polygonBytes(mid, round(4))),
			collection(of(aMultiPoint, point(at(1, 2)), point()), line(row(2)...), polygon(ring(4))))
	}
}

// A point is none where both ordinates are nowhere, and there alone.
func TestDecodeOfPointsNowhere(t *testing.T) {
	for _, little := range orders() {
		wantShape(t, "both", pointBytes(little), point())
		wantWrong(t, "X alone", pointBytes(little, at(nowhere, 5)), api.ErrRange)
		wantWrong(t, "Y alone", pointBytes(little, at(5, nowhere)), api.ErrRange)
		wantWrong(t, "both, of a line", lineBytes(little, at(1, 2), at(nowhere, nowhere)), api.ErrRange)
		wantWrong(t, "both, of a ring", polygonBytes(little, append(round(4), at(nowhere, nowhere), at(1, -1))), api.ErrRange)
		wantShape(t, "nearly", pointBytes(little, at(nowhere+1, nowhere+1)), point(at(nowhere+1, nowhere+1)))
		wantShape(t, "the other end", pointBytes(little, at(math.MaxInt, math.MaxInt)), point(at(math.MaxInt, math.MaxInt)))
	}
}

// Wherever the bytes are cut, they lack their end.
func TestDecodeOfCutBytes(t *testing.T) {
	for what, s := range map[string]api.Shape{
		"a point":           point(at(1, 2)),
		"an empty point":    point(),
		"a line":            line(row(3)...),
		"an empty line":     line(),
		"a polygon":         polygon(ring(4), ring(5)),
		"an empty polygon":  polygon(),
		"a multipoint":      of(aMultiPoint, point(at(1, 2)), point()),
		"a collection":      collection(),
		"all kinds":         rich(),
		"as deep as may be": under(deepest-1, point(at(1, 2))),
	} {
		for _, order := range []func() bool{always(false), always(true), turning(false), turning(true)} {
			b := spelt(s, order)
			for n := range len(b) {
				wantWrong(t, what+", cut", b[:n], api.ErrShort)
			}
			wantShape(t, what+", whole", b, s)
		}
	}
}

// A number of points for which there can't be enough bytes, and for which there just are.
func TestDecodeOfNumbersOfPoints(t *testing.T) {
	for _, little := range orders() {
		for _, n := range []int{2, 3, 100, mostPoints} {
			line := headed(little, aLine, uint64(n))
			wantWrong(t, "points of a line, a byte too few", append(line, many(16*n-1, byte(0))...), api.ErrShort)
			wantShape(t, "points of a line", append(line, many(16*n, byte(0))...), api.Shape{Kind: aLine, XY: make([]api.Point, n)})
			if n < 4 {
				continue
			}
			ring := append(headed(little, aPolygon, 1), num(uint64(n), 4, little)...)
			wantWrong(t, "points of a ring, a byte too few", append(ring, many(16*n-1, byte(0))...), api.ErrShort)
			wantShape(t, "points of a ring", append(ring, many(16*n, byte(0))...), polygon(api.Shape{XY: make([]api.Point, n)}))
		}
	}
}

// The same of parts and of rings: where there are enough bytes, what stands in them is looked at; where there are not, it is not.
func TestDecodeOfNumbersOfParts(t *testing.T) {
	for _, little := range orders() {
		for _, n := range []int{1, 2, 3, 100, mostParts} {
			for _, kind := range []uint64{aMultiPoint, aMultiLine, aMultiPolygon, aCollection} {
				bad := append(headed(little, kind, uint64(n)), many(9*n, byte(77))...)
				wantWrong(t, "parts, a byte too few", bad[:len(bad)-1], api.ErrShort)
				wantWrong(t, "parts", bad, api.ErrBad)
			}
			empty := append(headed(little, aCollection, uint64(n)), slices.Repeat(lineBytes(little), n)...)
			wantShape(t, "empty parts", empty, collection(many(n, line())...))
			wantWrong(t, "empty parts, a byte too few", empty[:len(empty)-1], api.ErrShort)

			long := append(headed(little, aPolygon, uint64(n)), many(4*n, byte(255))...)
			wantWrong(t, "rings, a byte too few", long[:len(long)-1], api.ErrShort)
			wantWrong(t, "rings", long, api.ErrLong)
			none := append(headed(little, aPolygon, uint64(n)), many(4*n, byte(0))...)
			wantWrong(t, "rings without points, a byte too few", none[:len(none)-1], api.ErrShort)
			wantWrong(t, "rings without points", none, api.ErrBad)
		}
	}
}

// Each number asks for its own bytes alone: a part further in may take those that one behind it lacks.
func TestDecodeOfNumbersInParts(t *testing.T) {
	for _, little := range orders() {
		inner := partsBytes(little, aCollection, lineBytes(little))
		b := append(headed(little, aCollection, 2), inner...)
		wantWrong(t, "the second one is not there", b, api.ErrShort)
		bad := append(headed(little, aCollection, 2), headed(little, aCollection, 1)...)
		bad = append(bad, many(9, byte(9))...)
		wantWrong(t, "nor is the first one right", bad, api.ErrBad)
	}
}

// kindsOfNone is numbers that are no Kind.
func kindsOfNone() []uint64 {
	return []uint64{0, 8, 9, 15, 16, 255, 256, 257, 258, 1 << 16, 1<<16 + 1, 1 << 24, 1<<24 + 1, 7 << 24, 1001, 1<<31 + 1, math.MaxInt32, math.MaxUint32}
}

func TestDecodeOfKindsThatAreNone(t *testing.T) {
	for _, little := range orders() {
		for _, kind := range kindsOfNone() {
			for _, behind := range [][]byte{nil, {0}, many(4, byte(0)), many(40, byte(0)), places(little, at(1, 2))} {
				b := append(head(little, kind), behind...)
				wantWrong(t, "at the top", b, api.ErrBad)
				part := append(head(little, kind), many(16, byte(0))...)
				wantWrong(t, "as a part", partsBytes(little, aCollection, pointBytes(!little), part), api.ErrBad)
				wantWrong(t, "as a part of a multipoint", partsBytes(!little, aMultiPoint, part), api.ErrBad)
			}
		}
	}
}

// A Kind is four bytes in its shape's own order.
func TestDecodeOfKindsInTheOtherOrder(t *testing.T) {
	for kind := uint64(aPoint); kind <= aCollection; kind++ {
		for _, little := range orders() {
			b := append(head(little, kind)[:1], num(kind, 4, !little)...)
			wantWrong(t, "a kind in the other order", append(b, many(16, byte(0))...), api.ErrBad)
		}
	}
}

// empties is the bytes of each kind without points and parts, by its number.
func empties(little bool) map[int][]byte {
	out := map[int][]byte{aPoint: pointBytes(little)}
	for kind := uint64(aLine); kind <= aCollection; kind++ {
		out[int(kind)] = headed(little, kind, 0)
	}
	return out
}

func TestDecodeOfKindsOfParts(t *testing.T) {
	own := map[int]int{aMultiPoint: aPoint, aMultiLine: aLine, aMultiPolygon: aPolygon}
	for _, little := range orders() {
		for outer := aMultiPoint; outer <= aCollection; outer++ {
			for kind, b := range empties(!little) {
				right := spelt(of(own[outer]), always(little))
				if outer == aCollection {
					right = b
				}
				all := partsBytes(little, uint64(outer), right, b, right)
				if outer != aCollection && kind != own[outer] {
					wantWrong(t, "a part of another kind", all, api.ErrBad)
					wantWrong(t, "a part of another kind, ahead of its end", partsBytes(little, uint64(outer), append(b[:5:5], many(4, byte(255))...)), api.ErrBad)
					continue
				}
				if s, err := wkb.Read(all); err != api.OK || s.Kind != outer || len(s.Parts) != 3 || s.Parts[1].Kind != kind {
					t.Errorf("a part of kind %d in kind %d: %v, %s", kind, outer, s, err)
				}
			}
		}
	}
}

// A ring has no order and no Kind; and it is no part of a collection.
func TestDecodeOfRings(t *testing.T) {
	for _, little := range orders() {
		asShape := append(headed(little, aRing, 4), places(little, round(4)...)...)
		wantWrong(t, "a ring by itself", asShape, api.ErrBad)
		wantWrong(t, "a ring in a collection", partsBytes(little, aCollection, asShape), api.ErrBad)
		// A head is read as how many points there are.
		wantWrong(t, "a ring with a head of no points", append(headed(false, aPolygon, 1), lineBytes(false, round(4)...)...), api.ErrBad)
		wantWrong(t, "a ring with a head of 513 points", append(headed(true, aPolygon, 1), lineBytes(true, round(4)...)...), api.ErrShort)
	}
}

// Then, of the whole, Check's error.
func TestDecodeOfWhatCheckRefuses(t *testing.T) {
	open := []api.Point{at(0, 0), at(9, 0), at(0, 9), at(0, 1)}
	far := at(nowhere, 3)
	for _, little := range orders() {
		one, half := lineBytes(little, row(1)...), pointBytes(!little, far)
		wantWrong(t, "a line of one point", one, api.ErrBad)
		wantWrong(t, "a ring without points", polygonBytes(little, nil), api.ErrBad)
		for n := 1; n <= 3; n++ {
			wantWrong(t, "a ring of too few points", polygonBytes(little, round(n)), api.ErrBad)
		}
		wantWrong(t, "a ring that is not round", polygonBytes(little, open), api.ErrBad)
		wantWrong(t, "a ring behind one that is right", polygonBytes(little, round(4), open), api.ErrBad)
		wantWrong(t, "an ordinate nowhere", half, api.ErrRange)
		wantWrong(t, "an ordinate nowhere, in a line", lineBytes(little, at(1, 2), far), api.ErrRange)
		wantWrong(t, "deep in others", underBytes(little, deepest-1, one), api.ErrBad)
		wantWrong(t, "nowhere, deep in others", underBytes(little, deepest-1, half), api.ErrRange)
		// The order is Check's, not that of the bytes.
		wantWrong(t, "nowhere ahead of a line of one", partsBytes(little, aCollection, half, one), api.ErrBad)
		wantWrong(t, "a line of one ahead of nowhere", partsBytes(little, aCollection, one, half), api.ErrBad)
		wantWrong(t, "a line of one point that is nowhere", lineBytes(little, far), api.ErrBad)
	}
}

// Read refuses what is left, but tells what is wrong with the shape first.
func TestReadOfWhatIsLeft(t *testing.T) {
	for _, little := range orders() {
		for _, left := range [][]byte{{0}, {9}, pointBytes(little), many(1000, byte(1))} {
			for what, want := range map[string]api.Errno{"range": api.ErrRange, "bad": api.ErrBad, "short": api.ErrShort, "long": api.ErrLong, "deep": api.ErrDeep} {
				b := map[string][]byte{
					"range": pointBytes(little, at(1, nowhere)),
					"bad":   lineBytes(little, row(1)...),
					"short": headed(little, aLine, mostPoints),
					"long":  headed(little, aLine, mostPoints+1),
					"deep":  underBytes(little, deepest, pointBytes(little)),
				}[what]
				wantWrong(t, "bytes are left behind what is "+what, append(b, left...), want)
			}
			if s, err := wkb.Read(append(pointBytes(little, at(1, 2)), left...)); err != api.ErrBad || !zero(s) {
				t.Errorf("bytes are left: %v, %s", s, err)
			}
		}
	}
}

// One shape behind the other is read by how many bytes each has.
func TestDecodeOfARow(t *testing.T) {
	for _, first := range orders() {
		order := turning(first)
		var b []byte
		var want []api.Shape
		for _, s := range rich().Parts {
			b, want = append(b, spelt(s, order)...), append(want, s)
		}
		for i, s := range want {
			got, n, err := wkb.Decode(b)
			if err != api.OK || n != wkb.Size(s) || text(got) != text(s) {
				t.Fatalf("shape %d: %s, %d, %s, want %s", i, text(got), n, err, text(s))
			}
			b = b[n:]
		}
		wantWrong(t, "behind the last one", b, api.ErrShort)
	}
}

func TestNoBytes(t *testing.T) {
	wantWrong(t, "nil", nil, api.ErrShort)
	wantWrong(t, "none", []byte{}, api.ErrShort)
	if _, _, err := wkb.Decode(nil); err != api.ErrShort {
		t.Errorf("Decode(nil): %s", err)
	}
	if _, err := wkb.Read(nil); err != api.ErrShort {
		t.Errorf("Read(nil): %s", err)
	}
}
