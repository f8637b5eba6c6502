package box_test

import (
	"bytes"
	"math/big"
	"slices"
	"testing"

	"hachure/api"
	"hachure/box"
	"hachure/wide"
)

// A model by the chapter's words: a box is the points that lie from Low to High, and areas are reckoned without bounds.

// inside says whether a point lies in a box.
func inside(b api.Box, p api.Point) bool {
	return !b.None && b.Low.X <= p.X && p.X <= b.High.X && b.Low.Y <= p.Y && p.Y <= b.High.Y
}

// corners are the four of a box that has points; none of another one.
func corners(b api.Box) []api.Point {
	all := []api.Point{b.Low, b.High, at(b.Low.X, b.High.Y), at(b.High.X, b.Low.Y)}
	if slices.ContainsFunc(all, func(p api.Point) bool { return !inside(b, p) }) {
		return nil
	}
	return all
}

// unionByWords is the least box of all corners.
func unionByWords(l ...api.Box) api.Box {
	var x, y []int
	for _, b := range l {
		for _, p := range corners(b) {
			x, y = append(x, p.X), append(y, p.Y)
		}
	}
	if len(x) == 0 {
		return none()
	}
	return from(slices.Min(x), slices.Min(y), slices.Max(x), slices.Max(y))
}

// meetsByWords looks for a point in both: if there is one, then there is one whose ordinates are those of corners.
func meetsByWords(a, b api.Box) bool {
	all := append(corners(a), corners(b)...)
	for _, p := range all {
		for _, q := range all {
			if r := at(p.X, q.Y); inside(a, r) && inside(b, r) {
				return true
			}
		}
	}
	return false
}

// holdsByWords says whether all of b's corners lie in a.
func holdsByWords(a, b api.Box) bool {
	return !slices.ContainsFunc(corners(b), func(p api.Point) bool { return !inside(a, p) })
}

// areaByWords is the product of a box's sides.
func areaByWords(b api.Box) *big.Int {
	if len(corners(b)) == 0 {
		return new(big.Int)
	}
	side := func(low, high int) *big.Int { return new(big.Int).Sub(big.NewInt(int64(high)), big.NewInt(int64(low))) }
	return new(big.Int).Mul(side(b.Low.X, b.High.X), side(b.Low.Y, b.High.Y))
}

// same says whether a U is that number.
func same(u wide.U, n *big.Int) bool {
	var b [24]byte
	if n.Sign() < 0 || n.BitLen() > 192 {
		return false
	}
	n.FillBytes(b[:])
	got := new(big.Int)
	for i := len(u) - 1; i >= 0; i-- {
		got.Lsh(got, 64).Or(got, new(big.Int).SetUint64(u[i]))
	}
	return got.Cmp(n) == 0
}

// wantModel holds each call of two boxes to the model.
func wantModel(t *testing.T, a, b api.Box) {
	t.Helper()
	all := unionByWords(a, b)
	wantBox(t, "Union", box.Union(a, b), all)
	wantBox(t, "All", box.All([]api.Box{a, b}), all)
	if got, want := box.Meets(a, b), meetsByWords(a, b); got != want {
		t.Errorf("Meets: %v, want %v", got, want)
	}
	if got, want := box.Holds(a, b), holdsByWords(a, b); got != want {
		t.Errorf("Holds: %v, want %v", got, want)
	}
	if got, want := box.Equal(a, b), unionByWords(a) == unionByWords(b); got != want {
		t.Errorf("Equal: %v, want %v", got, want)
	}
	wantAreas(t, a, b, all)
	if t.Failed() {
		t.Fatalf("of %v and %v", a, b)
	}
}

// wantAreas holds areas to the model; all is the union.
func wantAreas(t *testing.T, a, b, all api.Box) {
	t.Helper()
	own := areaByWords(a)
	if got := box.Area(a); !same(got, own) {
		t.Errorf("Area: %s, want %v", got.Text(), own)
	}
	growth := new(big.Int).Sub(areaByWords(all), own)
	if got := box.Growth(a, b); !same(got, growth) {
		t.Errorf("Growth: %s, want %v", got.Text(), growth)
	}
	waste := new(big.Int).Sub(growth, areaByWords(b))
	if got, below := box.Waste(a, b); !same(got, new(big.Int).Abs(waste)) || below != (waste.Sign() < 0) {
		t.Errorf("Waste: %s, %v, want %v", got.Text(), below, waste)
	}
}

// wantAlone holds the calls of one box to the model.
func wantAlone(t *testing.T, b api.Box) {
	t.Helper()
	points := corners(b)
	if got, want := box.Good(b), len(points) > 0 || b == none(); got != want {
		t.Errorf("Good(%v): %v, want %v", b, got, want)
	}
	var want []byte
	if len(points) > 0 {
		want = spelt(b.Low.X, b.High.X, b.Low.Y, b.High.Y)
		wantParse(t, "a box's bytes", want, b, api.OK)
	}
	if got := box.Bytes(b); !bytes.Equal(got, want) {
		t.Errorf("Bytes(%v): %v, want %v", b, got, want)
	}
	wantOf(t, "its corners", api.Shape{Kind: aLine, XY: points}, unionByWords(b))
	wantBox(t, "All of it alone", box.All([]api.Box{b}), unionByWords(b))
}

// wantFollows holds three boxes to what the chapter says follows.
func wantFollows(t *testing.T, a, b, c api.Box) {
	t.Helper()
	if box.Holds(a, b) && box.Meets(b, c) && !box.Meets(a, c) {
		t.Errorf("%v has %v, and does not meet %v as that does", a, b, c)
	}
	rises := wide.Cmp(box.Area(box.Union(a, b)), box.Area(a)) > 0
	if zero := box.Growth(a, b) == (wide.U{}); zero == rises {
		t.Errorf("Growth(%v, %v): 0: %v; the area rises: %v", a, b, zero, rises)
	}
	wantBox(t, "All of three", box.All([]api.Box{a, b, c}), unionByWords(a, b, c))
	// The least box that has all lies in whatever box has all.
	for _, d := range []api.Box{a, b, c} {
		if got, want := box.Holds(d, box.All([]api.Box{a, b, c})), box.Holds(d, a) && box.Holds(d, b) && box.Holds(d, c); got != want {
			t.Errorf("Holds(%v, All(%v, %v, %v)): %v", d, a, b, c, got)
		}
	}
}

// every is the box of nothing, and all boxes of these ordinates; every seventh one is None, too.
func every(ordinates ...int) []api.Box {
	out := []api.Box{none()}
	n := 0
	for _, lowX := range ordinates {
		for _, lowY := range ordinates {
			for _, highX := range ordinates {
				for _, highY := range ordinates {
					b := from(lowX, lowY, highX, highY)
					out = append(out, b)
					if n++; n%7 == 0 {
						b.None = true
						out = append(out, b)
					}
				}
			}
		}
	}
	return out
}

func TestEveryBoxAlone(t *testing.T) {
	for _, b := range every(least, least+1, -1, 0, 1, most-1, most) {
		wantAlone(t, b)
	}
}

func TestEveryTwoBoxes(t *testing.T) {
	for _, l := range [][]api.Box{every(0, 1, 2, 3), every(least, 0, most), every(most-1, most), every(least, least+1)} {
		for _, a := range l {
			for _, b := range l {
				wantModel(t, a, b)
			}
		}
	}
}

// P15.4: what follows.
func TestEveryThreeBoxes(t *testing.T) {
	for _, l := range [][]api.Box{every(0, 1, 2), every(least, most)} {
		for _, a := range l {
			for _, b := range l {
				for _, c := range l {
					wantFollows(t, a, b, c)
				}
			}
		}
	}
}

func TestThrownBoxes(t *testing.T) {
	for seed := range 20 {
		d := thrown(seed)
		for range 2000 {
			a, b, c := d.box(), d.box(), d.box()
			wantAlone(t, a)
			wantModel(t, a, b)
			wantFollows(t, a, b, c)
		}
	}
}

// Lists of boxes, and shapes of points, have the box that the model has.
func TestThrownLists(t *testing.T) {
	for seed := range 500 {
		d := thrown(seed)
		var l []api.Box
		var xy []api.Point
		for range d.under(20) {
			l = append(l, d.box())
			xy = append(xy, at(d.ordinate(), d.ordinate()))
		}
		wantBox(t, "All", box.All(l), unionByWords(l...))
		var points []api.Box
		for _, p := range xy {
			points = append(points, api.Box{Low: p, High: p})
		}
		cut := d.under(len(xy) + 1)
		wantOf(t, "thrown points", collection(line(xy[:cut]...), polygon(ring(xy[cut:]...))), unionByWords(points...))
	}
}

// FuzzParse: whatever the bytes are, they are a box's just if Bytes of it are these.
func FuzzParse(f *testing.F) {
	f.Add([]byte{})
	f.Add(spelt(1, 3, 2, 5))
	f.Add(spelt(3, 1, 2, 5))
	f.Add(append(spelt(1, 3, 2, 5), 0))
	f.Fuzz(func(t *testing.T, b []byte) {
		got, err := box.Parse(b)
		switch {
		case err == api.OK:
			if !box.Good(got) || got.None || !bytes.Equal(box.Bytes(got), b) {
				t.Errorf("Parse(%v): %v", b, got)
			}
		case got != api.Box{}, len(b) < 32 && err != api.ErrShort, len(b) >= 32 && err != api.ErrBad:
			t.Errorf("Parse(%v): %v, %s", b, got, err)
		}
	})
}

// FuzzTwo: whatever two boxes are, the calls tell of them what the model tells.
func FuzzTwo(f *testing.F) {
	f.Add(false, 0, 0, 3, 3, false, 2, 2, 5, 5)
	f.Add(true, 0, 0, 0, 0, false, least, least, most, most)
	f.Fuzz(func(t *testing.T, none bool, lowX, lowY, highX, highY int, other bool, a, b, c, d int) {
		one, two := from(lowX, lowY, highX, highY), from(a, b, c, d)
		one.None, two.None = none, other
		wantAlone(t, one)
		wantModel(t, one, two)
	})
}
