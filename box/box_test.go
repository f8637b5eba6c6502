package box_test

import (
	"slices"
	"testing"

	"hachure/api"
	"hachure/box"
)

// P15.1: None, Good, Union, All.

func TestNone(t *testing.T) {
	wantBox(t, "None", box.None(), none())
	if !box.Good(box.None()) {
		t.Error("None is not Good")
	}
}

func TestGood(t *testing.T) {
	for _, b := range append(some(), none()) {
		if !box.Good(b) {
			t.Errorf("Good(%v): false", b)
		}
	}
	for _, b := range unsound() {
		if box.Good(b) {
			t.Errorf("Good(%v): true", b)
		}
	}
}

// Each ordinate below, at and above the one that it is held against, with None and without.
func TestGoodOfEachOrder(t *testing.T) {
	near := []int{-1, 0, 1}
	for _, lowX := range near {
		for _, lowY := range near {
			for _, highX := range near {
				for _, highY := range near {
					b := from(lowX, lowY, highX, highY)
					if got, want := box.Good(b), lowX <= highX && lowY <= highY; got != want {
						t.Errorf("Good(%v): %v", b, got)
					}
					b.None = true
					if got, want := box.Good(b), lowX == 0 && lowY == 0 && highX == 0 && highY == 0; got != want {
						t.Errorf("Good(%v): %v", b, got)
					}
				}
			}
		}
	}
}

func TestUnion(t *testing.T) {
	for _, c := range [][3]api.Box{
		// Apart, in X, in Y and in both; either one further down.
		{from(0, 0, 1, 1), from(3, 0, 4, 1), from(0, 0, 4, 1)},
		{from(0, 0, 1, 1), from(0, 3, 1, 4), from(0, 0, 1, 4)},
		{from(0, 0, 1, 1), from(3, 3, 4, 4), from(0, 0, 4, 4)},
		{from(0, 3, 1, 4), from(3, 0, 4, 1), from(0, 0, 4, 4)},
		// One over the other, one in the other, alike, and as a cross.
		{from(0, 0, 3, 3), from(2, 2, 5, 5), from(0, 0, 5, 5)},
		{from(0, 0, 9, 9), from(2, 3, 4, 5), from(0, 0, 9, 9)},
		{from(1, 2, 3, 4), from(1, 2, 3, 4), from(1, 2, 3, 4)},
		{from(0, 4, 9, 5), from(4, 0, 5, 9), from(0, 0, 9, 9)},
		// Points, lines, and the zero box, which is a point.
		{from(1, 1, 1, 1), from(1, 1, 1, 1), from(1, 1, 1, 1)},
		{from(1, 5, 1, 5), from(3, 2, 3, 2), from(1, 2, 3, 5)},
		{from(0, 7, 9, 7), from(7, 0, 7, 9), from(0, 0, 9, 9)},
		{{}, from(4, -4, 4, -4), from(0, -4, 4, 0)},
		// The ends.
		{from(least, least, least, least), from(most, most, most, most), from(least, least, most, most)},
		{from(least, most, least, most), from(most, least, most, least), from(least, least, most, most)},
		{from(-1, -1, 1, 1), from(0, least, 0, most), from(-1, least, 1, most)},
	} {
		wantUnion(t, c[0], c[1], c[2])
	}
}

// Of nothing, and of boxes that are not Good, there is nothing in a union; what else they have does not count.
func TestUnionOfNothing(t *testing.T) {
	for _, a := range pointless() {
		for _, b := range pointless() {
			wantUnion(t, a, b, none())
		}
		for _, b := range some() {
			wantUnion(t, a, b, b)
		}
	}
}

func TestAll(t *testing.T) {
	for _, c := range []struct {
		l    []api.Box
		want api.Box
	}{
		{nil, none()},
		{[]api.Box{}, none()},
		{pointless(), none()},
		{[]api.Box{none()}, none()},
		{[]api.Box{from(1, 2, 3, 4)}, from(1, 2, 3, 4)},
		{[]api.Box{{}}, api.Box{}},
		{[]api.Box{from(0, 0, 1, 1), from(7, -2, 8, -1), from(3, 3, 4, 9)}, from(0, -2, 8, 9)},
		{[]api.Box{from(0, 0, 9, 9), from(1, 1, 2, 2), from(3, 3, 4, 4)}, from(0, 0, 9, 9)},
		{[]api.Box{none(), from(5, 5, 6, 6), none(), from(4, 5, 5, 5), none()}, from(4, 5, 6, 6)},
		{append(unsound(), from(5, 5, 6, 6)), from(5, 5, 6, 6)},
		{slices.Concat(unsound(), []api.Box{from(8, 0, 8, 0)}, unsound(), []api.Box{from(0, 8, 0, 8)}, unsound()), from(0, 0, 8, 8)},
		{some(), from(least, least, most, most)},
	} {
		wantBox(t, "All", box.All(c.l), c.want)
		slices.Reverse(c.l)
		wantBox(t, "All the other way round", box.All(c.l), c.want)
	}
}

// All changes no box of the list, nor what lies behind its end, which is not looked at.
func TestAllOfRoom(t *testing.T) {
	l := []api.Box{from(1, 1, 2, 2), {None: true, Low: at(7, 7)}, from(3, 2, 1, 0), from(-9, -9, 9, 9), none()}
	ahead := slices.Clone(l)
	wantBox(t, "All", box.All(l[:3]), from(1, 1, 2, 2))
	if !slices.Equal(l, ahead) {
		t.Errorf("the list has changed: %v", l)
	}
}
