package box_test

import (
	"testing"

	"hachure/api"
)

// P15.2: Meets, Holds, Equal.

func TestMeets(t *testing.T) {
	b := from(0, 0, 5, 5)
	for _, c := range []struct {
		other api.Box
		want  bool
	}{
		{b, true}, {from(1, 1, 2, 2), true}, {from(-9, -9, 9, 9), true}, {from(3, 3, 8, 8), true}, {from(-1, 2, 6, 3), true},
		// An edge alone, and one that is missed by 1.
		{from(5, 0, 9, 5), true}, {from(6, 0, 9, 5), false},
		{from(-9, 0, 0, 5), true}, {from(-9, 0, -1, 5), false},
		{from(0, 5, 5, 9), true}, {from(0, 6, 5, 9), false},
		{from(0, -9, 5, 0), true}, {from(0, -9, 5, -1), false},
		// A corner alone, and one that is missed by 1 in either ordinate, or in both.
		{from(5, 5, 9, 9), true}, {from(6, 5, 9, 9), false}, {from(5, 6, 9, 9), false}, {from(6, 6, 9, 9), false},
		{from(-9, -9, 0, 0), true}, {from(-9, -9, -1, 0), false}, {from(-9, -9, 0, -1), false}, {from(-9, -9, -1, -1), false},
		{from(5, -9, 9, 0), true}, {from(6, -9, 9, 0), false}, {from(5, -9, 9, -1), false}, {from(6, -9, 9, -1), false},
		{from(-9, 5, 0, 9), true}, {from(-9, 5, -1, 9), false}, {from(-9, 6, 0, 9), false}, {from(-9, 6, -1, 9), false},
		// Points and lines.
		{from(3, 3, 3, 3), true}, {from(0, 0, 0, 0), true}, {from(5, 0, 5, 0), true}, {from(6, 0, 6, 0), false}, {from(0, -1, 0, -1), false},
		{from(-4, 5, 9, 5), true}, {from(-4, 6, 9, 6), false}, {from(2, -4, 2, 9), true}, {from(-1, -4, -1, 9), false},
		// The ends.
		{from(least, least, most, most), true}, {from(least, least, 0, 0), true}, {from(5, 5, most, most), true},
		{from(least, least, -1, most), false}, {from(least, 6, most, most), false}, {from(3, least, 3, most), true},
		{from(most, most, most, most), false}, {from(least, least, least, least), false},
	} {
		wantMeets(t, b, c.other, c.want)
	}
}

// Of the same corner alone, and 1 apart at the ends of what an int holds.
func TestMeetsAtTheEnds(t *testing.T) {
	wantMeets(t, from(least, least, least, least), from(least, least, most, most), true)
	wantMeets(t, from(most, most, most, most), from(least, least, most, most), true)
	wantMeets(t, from(most, 0, most, 0), from(least, 0, most-1, 0), false)
	wantMeets(t, from(0, least, 0, least), from(0, least+1, 0, most), false)
	wantMeets(t, from(least, 0, least, 0), from(most, 0, most, 0), false)
	wantMeets(t, from(0, most, 0, most), from(0, least, 0, least), false)
}

// What has no points meets nothing, itself neither.
func TestMeetsOfNothing(t *testing.T) {
	for _, a := range pointless() {
		for _, b := range append(pointless(), some()...) {
			wantMeets(t, a, b, false)
		}
	}
}

func TestHolds(t *testing.T) {
	b := from(0, 0, 5, 5)
	for _, c := range []struct {
		other     api.Box
		has, lies bool
	}{
		{b, true, true},
		{from(1, 1, 4, 4), true, false}, {from(-1, -1, 6, 6), false, true},
		// Up to each edge, and beyond it by 1.
		{from(0, 1, 4, 4), true, false}, {from(-1, 1, 4, 4), false, false},
		{from(1, 0, 4, 4), true, false}, {from(1, -1, 4, 4), false, false},
		{from(1, 1, 5, 4), true, false}, {from(1, 1, 6, 4), false, false},
		{from(1, 1, 4, 5), true, false}, {from(1, 1, 4, 6), false, false},
		// Bigger by one edge, smaller by one edge.
		{from(-1, 0, 5, 5), false, true}, {from(0, -1, 5, 5), false, true}, {from(0, 0, 6, 5), false, true}, {from(0, 0, 5, 6), false, true},
		{from(1, 0, 5, 5), true, false}, {from(0, 1, 5, 5), true, false}, {from(0, 0, 4, 5), true, false}, {from(0, 0, 5, 4), true, false},
		// Points and lines.
		{from(0, 0, 0, 0), true, false}, {from(5, 5, 5, 5), true, false}, {from(5, 6, 5, 6), false, false}, {from(-1, 0, -1, 0), false, false},
		{from(0, 2, 5, 2), true, false}, {from(0, 2, 6, 2), false, false}, {from(3, -1, 3, 5), false, false},
		// Apart, and over one another.
		{from(7, 7, 9, 9), false, false}, {from(3, 3, 9, 9), false, false}, {from(-1, 2, 6, 3), false, false},
		// The ends.
		{from(least, least, most, most), false, true}, {from(least, 0, most, 5), false, true}, {from(least, 1, most, 5), false, false},
	} {
		wantHolds(t, b, c.other, c.has)
		wantHolds(t, c.other, b, c.lies)
	}
}

// All have what has no points; what has none has nothing else.
func TestHoldsOfNothing(t *testing.T) {
	for _, a := range pointless() {
		for _, b := range pointless() {
			wantHolds(t, a, b, true)
		}
		for _, b := range some() {
			wantHolds(t, b, a, true)
			wantHolds(t, a, b, false)
		}
	}
}

func TestEqual(t *testing.T) {
	for i, a := range some() {
		for j, b := range some() {
			wantEqual(t, a, b, i == j)
		}
	}
	for _, other := range []api.Box{from(0, 2, 3, 4), from(1, 0, 3, 4), from(1, 2, 9, 4), from(1, 2, 3, 9), from(1, 2, 3, 5), from(2, 1, 4, 3)} {
		wantEqual(t, from(1, 2, 3, 4), other, false)
	}
}

// What has no points is alike, whatever else it has, and unlike all that has some.
func TestEqualOfNothing(t *testing.T) {
	for _, a := range pointless() {
		for _, b := range pointless() {
			wantEqual(t, a, b, true)
		}
		for _, b := range some() {
			wantEqual(t, a, b, false)
		}
	}
}
