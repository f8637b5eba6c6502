package box_test

import (
	"testing"

	"hachure/api"
	"hachure/box"
	"hachure/wide"
)

// P15.2: Area, Growth, Waste.

// Areas at which words are full.
const (
	twoTo64       = "18446744073709551616"
	side          = "18446744073709551615"                    // from the one end of an int to the other
	whole         = "340282366920938463426481119284349108225" // side times side
	wholeLess1    = "340282366920938463426481119284349108224"
	wholeLess3    = "340282366920938463426481119284349108222"
	wholeLessSide = "340282366920938463408034375210639556610"
)

// everywhere is the greatest box that there is.
func everywhere() api.Box {
	return from(least, least, most, most)
}

func TestArea(t *testing.T) {
	for _, c := range []struct {
		b    api.Box
		want string
	}{
		{from(1, 2, 3, 5), "6"},
		{from(0, 0, 1, 1), "1"},
		{from(-3, -7, 4, 8), "105"},
		{from(-9, -9, -2, -8), "7"},
		{from(5, 6, 5, 6), "0"},
		{from(0, 6, 1000, 6), "0"},
		{from(6, 0, 6, 1000), "0"},
		{api.Box{}, "0"},
		// At 64 bits and above, and at 128.
		{from(0, 0, 1<<32, 1<<32), twoTo64},
		{from(least, 0, most, 1), side},
		{from(0, least, 1, most), side},
		{from(least, 0, most, 0), "0"},
		{from(least, least, 0, -1), "85070591730234615856620279821087277056"},
		{from(0, 0, most, most), "85070591730234615847396907784232501249"},
		{from(least, least, 0, most), "170141183460469231722463931679029329920"},
		{everywhere(), whole},
	} {
		wantArea(t, c.b, c.want)
	}
}

func TestAreaOfNothing(t *testing.T) {
	for _, b := range pointless() {
		wantArea(t, b, "0")
	}
}

func TestGrowth(t *testing.T) {
	for _, c := range []struct {
		a, b api.Box
		want string
	}{
		{from(0, 0, 2, 2), from(0, 0, 2, 2), "0"},
		{from(0, 0, 2, 2), from(3, 0, 4, 2), "4"},
		{from(0, 0, 2, 2), from(0, 5, 2, 6), "8"},
		{from(0, 0, 2, 2), from(4, 4, 5, 5), "21"},
		{from(0, 0, 2, 2), from(1, 1, 3, 3), "5"},
		{from(0, 0, 2, 2), from(-1, -1, -1, -1), "5"},
		// One holds the other one.
		{from(0, 0, 9, 9), from(2, 2, 3, 3), "0"},
		{from(0, 0, 9, 9), from(0, 0, 9, 5), "0"},
		{from(2, 2, 3, 3), from(0, 0, 9, 9), "80"},
		// Points and lines: a line that gets longer has no area.
		{from(0, 0, 2, 2), from(1, 1, 1, 1), "0"},
		{from(1, 1, 1, 1), from(1, 1, 1, 1), "0"},
		{from(1, 1, 1, 1), from(3, 5, 3, 5), "8"},
		{from(0, 3, 5, 3), from(7, 3, 9, 3), "0"},
		{from(0, 3, 5, 3), from(2, 4, 2, 4), "5"},
		{from(3, 0, 3, 5), from(3, -9, 3, 9), "0"},
		// The ends.
		{api.Box{}, everywhere(), whole},
		{everywhere(), api.Box{}, "0"},
		{everywhere(), everywhere(), "0"},
		{from(0, 0, 1, 1), everywhere(), wholeLess1},
		{from(least, 0, most, 1), everywhere(), wholeLessSide},
		{from(least, least, least, least), from(most, most, most, most), whole},
		{from(least, least, least, most), from(most, 0, most, 0), whole},
		{from(least, least, 0, most), from(1, 0, most, 0), "170141183460469231704017187605319778305"},
	} {
		wantGrowth(t, c.a, c.b, c.want)
	}
}

// Nothing grows to what it is put to; by nothing nothing grows.
func TestGrowthOfNothing(t *testing.T) {
	for _, a := range pointless() {
		for _, b := range pointless() {
			wantGrowth(t, a, b, "0")
		}
		for _, b := range some() {
			wantGrowth(t, b, a, "0")
			wantGrowth(t, a, b, box.Area(b).Text())
		}
		wantGrowth(t, a, from(1, 2, 3, 5), "6")
		wantGrowth(t, a, everywhere(), whole)
	}
}

func TestWaste(t *testing.T) {
	for _, c := range []struct {
		a, b api.Box
		want string
	}{
		// Not below 0: boxes that lie apart, side by side, points and lines.
		{from(0, 0, 1, 1), from(2, 0, 3, 1), "1"},
		{from(0, 0, 1, 1), from(4, 4, 6, 6), "31"},
		{from(0, 0, 1, 1), from(1, 0, 2, 1), "0"},
		{from(0, 0, 1, 1), from(1, 1, 2, 2), "2"},
		{from(0, 0, 0, 0), from(3, 4, 3, 4), "12"},
		{from(0, 0, 0, 0), from(0, 0, 0, 0), "0"},
		{from(0, 3, 5, 3), from(7, 3, 9, 3), "0"},
		{from(0, 0, 9, 9), from(4, 4, 4, 4), "0"},
		{from(0, 0, 9, 9), from(4, 0, 4, 9), "0"},
		{from(0, 0, 3, 3), from(2, 2, 5, 5), "7"},
		// Below 0: boxes that have much in both.
		{from(1, 2, 3, 5), from(1, 2, 3, 5), "-6"},
		{from(0, 0, 9, 9), from(1, 1, 2, 2), "-1"},
		{from(0, 0, 9, 9), from(0, 0, 9, 8), "-72"},
		{from(0, 0, 3, 1), from(1, 0, 4, 1), "-2"},
		{from(0, 0, 3, 3), from(1, 1, 4, 4), "-2"},
		// The areas of both are 129 bits together.
		{everywhere(), everywhere(), "-" + whole},
		{everywhere(), from(least, least, most, most-1), "-" + wholeLessSide},
		{everywhere(), from(0, 0, 1, 1), "-1"},
		{everywhere(), from(0, 0, 0, 0), "0"},
		{everywhere(), from(least, 0, most, 1), "-" + side},
		{from(least, least, 0, most), from(0, least, most, most), "0"},
		{from(least, least, 0, most), from(-1, least, most, most), "-" + side},
		{from(least, least, 0, most), from(1, least, most, most), side},
		// The areas of both are nothing against their union's.
		{from(least, least, least, least), from(most, most, most, most), whole},
		{from(least, least, least+1, least+1), from(most-1, most, most, most), wholeLess1},
		{from(least, least, least+1, least+1), from(most-2, most-1, most, most), wholeLess3},
	} {
		wantWaste(t, c.a, c.b, c.want)
	}
}

// Of nothing, and of boxes that are not Good, nothing is wasted: what it is put to is as it was.
func TestWasteOfNothing(t *testing.T) {
	for _, a := range pointless() {
		for _, b := range append(pointless(), some()...) {
			wantWaste(t, a, b, "0")
		}
	}
}

// The words of an area are those of layer 1, from the lowest on.
func TestAreasAreWide(t *testing.T) {
	b := everywhere()
	want := wide.U{1, 1<<64 - 2, 0}
	if got := box.Area(b); got != want {
		t.Errorf("Area: %v, want %v", got, want)
	}
	if got := box.Growth(box.None(), b); got != want {
		t.Errorf("Growth: %v, want %v", got, want)
	}
	if got, below := box.Waste(b, b); got != want || !below {
		t.Errorf("Waste: %v, %v, want %v, true", got, below, want)
	}
}
