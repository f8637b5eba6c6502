package wkb_test

import (
	"math"
	"slices"
	"testing"

	"hachure/api"
)

// P14.2: ErrDeep, ErrLong, and which of several errors is the first.

func TestDecodeOfDepth(t *testing.T) {
	for _, little := range orders() {
		for n := range 40 {
			what := "in collections"
			for s, b := range map[string][]byte{"point": pointBytes(!little, at(1, 2)), "line": lineBytes(little), "collection": headed(little, aCollection, 0)} {
				if all := underBytes(little, n, b); n < deepest {
					wantShape(t, s+" "+what, all, under(n, map[string]api.Shape{"point": point(at(1, 2)), "line": line(), "collection": collection()}[s]))
				} else {
					wantWrong(t, s+" "+what, all, api.ErrDeep)
				}
			}
			// Rings lie where their polygon is; the parts of a multi lie one deeper.
			if all := underBytes(little, n, polygonBytes(little, round(4))); n < deepest {
				wantShape(t, "a polygon "+what, all, under(n, polygon(ring(4))))
			} else {
				wantWrong(t, "a polygon "+what, all, api.ErrDeep)
			}
			if all := underBytes(little, n, partsBytes(little, aMultiPolygon, polygonBytes(little, round(4)))); n+1 < deepest {
				wantShape(t, "a multipolygon "+what, all, under(n, of(aMultiPolygon, polygon(ring(4)))))
			} else {
				wantWrong(t, "a multipolygon "+what, all, api.ErrDeep)
			}
		}
	}
}

// A multi that has nothing in it lies as deep as any other shape may.
func TestDecodeOfDepthOfEmptyMultis(t *testing.T) {
	for kind := uint64(aMultiPoint); kind <= aCollection; kind++ {
		wantShape(t, "at the depth that may be", underBytes(true, deepest-1, headed(false, kind, 0)), under(deepest-1, of(int(kind))))
		wantWrong(t, "one deeper", underBytes(true, deepest, headed(false, kind, 0)), api.ErrDeep)
	}
}

// What is too deep is told as its order byte is read, be there what may behind that; but a part without bytes enough is not begun.
func TestDecodeOfDepthAtTheOrderByte(t *testing.T) {
	for _, little := range orders() {
		for _, order := range []byte{0, 1, 2, 3, 128, 255} {
			want := api.ErrDeep
			if order > 1 {
				want = api.ErrBad
			}
			for _, behind := range [][]byte{many(8, byte(0)), many(8, byte(255)), pointBytes(little)[1:], many(100, byte(7)), num(math.MaxUint64, 8, little)} {
				wantWrong(t, "with bytes behind", underBytes(little, deepest, append([]byte{order}, behind...)), want)
			}
			for n := range 8 {
				wantWrong(t, "without enough of them", underBytes(little, deepest, append([]byte{order}, many(n, byte(0))...)), api.ErrShort)
			}
		}
		wantWrong(t, "without an order byte", underBytes(little, deepest-1, headed(little, aCollection, 1)), api.ErrShort)
		// At the last depth that may be, the same bytes are looked at.
		for _, behind := range [][]byte{many(8, byte(0)), many(8, byte(255))} {
			wantWrong(t, "at the depth that may be", underBytes(little, deepest-1, append([]byte{0}, behind...)), api.ErrBad)
		}
	}
}

// The second part is as deep as the first.
func TestDecodeOfDepthOfParts(t *testing.T) {
	deep := underBytes(false, deepest-2, lineBytes(true))
	deeper := underBytes(true, deepest-1, lineBytes(true))
	wantShape(t, "both may be", partsBytes(false, aCollection, deep, deep), collection(under(deepest-2, line()), under(deepest-2, line())))
	wantWrong(t, "the second one is too deep", partsBytes(false, aCollection, deep, deeper), api.ErrDeep)
	wantWrong(t, "the first one is too deep", partsBytes(false, aCollection, deeper, deep), api.ErrDeep)
	wantShape(t, "one that is not deep behind", partsBytes(false, aCollection, deep, lineBytes(true)), collection(under(deepest-2, line()), line()))
}

// farNumbers is numbers of points or parts that are above all limits.
func farNumbers() []uint64 {
	return []uint64{mostPoints + 1, mostPoints + 2, 8000, 1 << 16, 1 << 24, 1 << 28, 1<<28 + 1, math.MaxInt32, 1 << 31, 1<<31 + 2, math.MaxUint32}
}

// Too many is told as the number is read, ahead of asking whether there can be bytes enough.
func TestDecodeOfTooMany(t *testing.T) {
	for _, little := range orders() {
		for _, behind := range [][]byte{nil, {0}, many(9, byte(9)), many(70000, byte(0))} {
			for _, n := range farNumbers() {
				wantWrong(t, "points of a line", append(headed(little, aLine, n), behind...), api.ErrLong)
				wantWrong(t, "points of a ring", slices.Concat(headed(little, aPolygon, 1), num(n, 4, little), behind), api.ErrLong)
			}
			for _, n := range append(farNumbers(), mostParts+1, mostParts+2, 2000, mostPoints) {
				for kind := uint64(aPolygon); kind <= aCollection; kind++ {
					wantWrong(t, "parts, or rings", append(headed(little, kind, n), behind...), api.ErrLong)
				}
			}
		}
		wantWrong(t, "just as many points", headed(little, aLine, mostPoints), api.ErrShort)
		wantWrong(t, "just as many points, in a ring", append(headed(little, aPolygon, 1), num(mostPoints, 4, little)...), api.ErrShort)
		for kind := uint64(aPolygon); kind <= aCollection; kind++ {
			wantWrong(t, "just as many parts, or rings", headed(little, kind, mostParts), api.ErrShort)
		}
	}
}

// The limits hold for all points together, wherever they are.
func TestDecodeOfPointsTogether(t *testing.T) {
	for _, little := range orders() {
		two := func(n, m int) []byte {
			return partsBytes(little, aCollection, lineBytes(little, row(n)...), lineBytes(!little, row(m)...))
		}
		wantShape(t, "two lines", two(2000, 2000), collection(line(row(2000)...), line(row(2000)...)))
		wantWrong(t, "two lines, one point more", two(2000, 2001), api.ErrLong)
		wantWrong(t, "two lines, one point more in the first", two(2001, 2000), api.ErrLong)
		wantWrong(t, "a line behind all that may be", two(mostPoints, 2), api.ErrLong)
		wantShape(t, "an empty line behind all that may be", two(mostPoints, 0), collection(line(row(mostPoints)...), line()))

		wantShape(t, "two rings", polygonBytes(little, round(1996), round(2004)), polygon(ring(1996), ring(2004)))
		wantWrong(t, "two rings, one point more", polygonBytes(little, round(1996), round(2005)), api.ErrLong)

		// The number alone tells it: its points are not there.
		begun := append(headed(little, aCollection, 2), lineBytes(little, row(10)...)...)
		wantWrong(t, "a number behind ten points", append(begun, headed(little, aLine, mostPoints-9)...), api.ErrLong)
		wantWrong(t, "a number that may be, behind ten points", append(begun, headed(little, aLine, mostPoints-10)...), api.ErrShort)
		rings := append(headed(little, aPolygon, 2), polygonBytes(little, round(10))[9:]...)
		wantWrong(t, "a ring's number behind ten points", append(rings, num(mostPoints-9, 4, little)...), api.ErrLong)
		wantWrong(t, "a ring's number that may be", append(rings, num(mostPoints-10, 4, little)...), api.ErrShort)
		// Deep and here are counted together.
		deep := underBytes(little, deepest-2, lineBytes(little, row(3000)...))
		wantWrong(t, "deep ones count", partsBytes(little, aCollection, deep, headed(little, aLine, 1001)), api.ErrLong)
		wantWrong(t, "deep ones count, too many of them not", partsBytes(little, aCollection, deep, headed(little, aLine, 1000)), api.ErrShort)
	}
}

// A point of Kind 1 counts when it was read, if it is one.
func TestDecodeOfPointsOfKindOne(t *testing.T) {
	for _, little := range orders() {
		full := lineBytes(little, row(mostPoints)...)
		behind := func(b ...[]byte) []byte {
			return partsBytes(little, aCollection, append([][]byte{full}, b...)...)
		}
		one, half := pointBytes(little, at(1, 2)), pointBytes(!little, at(nowhere, 2))
		wantWrong(t, "a point too many", behind(one), api.ErrLong)
		wantWrong(t, "a point too many, half nowhere", behind(half), api.ErrLong)
		wantWrong(t, "a point too many, the other half nowhere", behind(pointBytes(little, at(2, nowhere))), api.ErrLong)
		wantShape(t, "points that are none", behind(pointBytes(little), pointBytes(!little)), collection(line(row(mostPoints)...), point(), point()))
		for n := 9; n < 21; n++ {
			wantWrong(t, "a point that is not read to its end", behind(one[:n]), api.ErrShort)
		}
		wantWrong(t, "a point, ahead of what is wrong behind it", behind(one, many(9, byte(9))), api.ErrLong)
		wantWrong(t, "no point, ahead of what is wrong behind it", behind(pointBytes(little), many(9, byte(9))), api.ErrBad)

		ahead := func(n uint64) []byte { return partsBytes(little, aCollection, one, headed(little, aLine, n)) }
		wantWrong(t, "a line behind a point", ahead(mostPoints), api.ErrLong)
		wantWrong(t, "a line behind a point that may be", ahead(mostPoints-1), api.ErrShort)
		wantWrong(t, "a line behind a point that is none", partsBytes(little, aCollection, pointBytes(little), headed(little, aLine, mostPoints)), api.ErrShort)
		wantWrong(t, "a line behind half a point", partsBytes(little, aCollection, half, headed(little, aLine, mostPoints)), api.ErrLong)

		short := lineBytes(little, row(mostPoints-2)...)
		pair := partsBytes(little, aMultiPoint, one, pointBytes(little), one)
		wantShape(t, "as many as may be, with points", partsBytes(little, aCollection, short, pair), collection(line(row(mostPoints-2)...), of(aMultiPoint, point(at(1, 2)), point(), point(at(1, 2)))))
		wantWrong(t, "one more, with points", partsBytes(little, aCollection, short, pair, one), api.ErrLong)
	}
}

// The limit of parts is one of all together; rings are parts; and those count that are announced.
func TestDecodeOfPartsTogether(t *testing.T) {
	for _, little := range orders() {
		empty := lineBytes(little)
		wantShape(t, "as many as may be", partsBytes(little, aCollection, many(mostParts, empty)...), collection(many(mostParts, line())...))
		with := func(n int, first []byte) []byte {
			return partsBytes(little, aCollection, append([][]byte{first}, many(n-1, empty)...)...)
		}
		lines := func(n int) []byte { return partsBytes(little, aMultiLine, many(n, empty)...) }
		wantShape(t, "parts of parts", with(400, lines(600)), collection(append([]api.Shape{of(aMultiLine, many(600, line())...)}, many(399, line())...)...))
		wantWrong(t, "parts of parts, one more", with(400, lines(601)), api.ErrLong)
		wantWrong(t, "parts of parts, one more outside", with(401, lines(600)), api.ErrLong)
		wantWrong(t, "a part of as many as may be", with(mostParts, lines(1)), api.ErrLong)
		wantWrong(t, "a number in as many as may be, and wrong ones behind", partsBytes(little, aCollection, append([][]byte{headed(little, aPolygon, 1)}, many(mostParts-1, many(9, byte(9)))...)...), api.ErrLong)
		wantWrong(t, "none in as many as may be, and wrong ones behind", partsBytes(little, aCollection, append([][]byte{headed(little, aPolygon, 0)}, many(mostParts-1, many(9, byte(9)))...)...), api.ErrBad)

		rings := polygonBytes(little, many(500, round(4))...)
		wantShape(t, "rings are parts", with(500, rings), collection(append([]api.Shape{polygon(many(500, ring(4))...)}, many(499, line())...)...))
		wantWrong(t, "rings are parts, one more", with(501, rings), api.ErrLong)

		// Too many parts are told ahead of asking for their bytes.
		begun := append(headed(little, aCollection, 3), lines(7)...)
		wantWrong(t, "a number behind ten parts", append(begun, headed(little, aMultiPoint, mostParts-9)...), api.ErrLong)
		wantWrong(t, "a number that may be, behind ten parts", slices.Concat(begun, headed(little, aMultiPoint, mostParts-10), many(9, byte(0))), api.ErrShort)
	}
}

// faults is bytes of parts that are wrong, each of nine bytes and more, as parts of a collection at the top, by the error that is to be told.
func faults(little bool) map[string]struct {
	b   []byte
	err api.Errno
} {
	type fault = struct {
		b   []byte
		err api.Errno
	}
	return map[string]fault{
		"an order":               {append([]byte{2}, many(20, byte(0))...), api.ErrBad},
		"a kind":                 {append(head(little, 8), many(16, byte(0))...), api.ErrBad},
		"too many points":        {headed(little, aLine, mostPoints+1), api.ErrLong},
		"too many parts":         {headed(little, aMultiLine, mostParts+1), api.ErrLong},
		"too many rings":         {headed(little, aPolygon, mostParts+1), api.ErrLong},
		"points that lack":       {headed(little, aLine, mostPoints-9), api.ErrShort},
		"parts that lack":        {headed(little, aMultiPoint, mostParts-9), api.ErrShort},
		"rings that lack":        {headed(little, aPolygon, mostParts-9), api.ErrShort},
		"too deep":               {underBytes(little, deepest-1, lineBytes(little)), api.ErrDeep},
		"a part of another kind": {partsBytes(little, aMultiPoint, lineBytes(little)), api.ErrBad},
	}
}

// The first one that is wrong, byte by byte, is told; what Check says comes behind all of them.
func TestDecodeTellsTheFirst(t *testing.T) {
	for _, little := range orders() {
		one, half := lineBytes(little, row(1)...), pointBytes(little, at(nowhere, 2))
		for first, f := range faults(little) {
			for second, g := range faults(!little) {
				what := first + " ahead of " + second
				wantWrong(t, what, partsBytes(!little, aCollection, f.b, g.b), f.err)
				wantWrong(t, what+", behind others", partsBytes(!little, aCollection, pointBytes(little), polygonBytes(!little, round(4)), f.b, g.b), f.err)
			}
			wantWrong(t, first+", behind what Check refuses", partsBytes(!little, aCollection, one, f.b), f.err)
			wantWrong(t, first+", behind what is nowhere", partsBytes(!little, aCollection, half, f.b), f.err)
			wantWrong(t, first+", ahead of what Check refuses", partsBytes(!little, aCollection, f.b, one), f.err)
			wantWrong(t, first+", with bytes left", append(partsBytes(!little, aCollection, f.b), 1, 2, 3), f.err)
		}
	}
}

// Within one shape: its order, its depth, its Kind, its number, its bytes.
func TestDecodeTellsTheFirstOfOneShape(t *testing.T) {
	for _, little := range orders() {
		wantWrong(t, "an order, and nothing behind", []byte{2}, api.ErrBad)
		wantWrong(t, "an order, and a kind that is none", append([]byte{2}, num(9, 4, little)...), api.ErrBad)
		wantWrong(t, "a kind that is cut", head(little, 9)[:4], api.ErrShort)
		wantWrong(t, "a kind that is cut, and could be none", append([]byte{0}, 9), api.ErrShort)
		wantWrong(t, "a kind, and no number behind", head(little, 9), api.ErrBad)
		wantWrong(t, "a number that is cut", headed(little, aLine, math.MaxUint32)[:8], api.ErrShort)
		wantWrong(t, "a number of rings that is cut", headed(little, aPolygon, math.MaxUint32)[:8], api.ErrShort)
		wantWrong(t, "a number of parts that is cut", headed(little, aCollection, math.MaxUint32)[:8], api.ErrShort)
		wantWrong(t, "a number of a ring's points that is cut", append(headed(little, aPolygon, 1), 255, 255, 255), api.ErrShort)
		wantWrong(t, "a line of one point, a byte short", lineBytes(little, row(1)...)[:24], api.ErrShort)
		wantWrong(t, "a line of one point", lineBytes(little, row(1)...), api.ErrBad)
		wantWrong(t, "a point nowhere, a byte short", pointBytes(little, at(nowhere, 1))[:20], api.ErrShort)
	}
}
