package blob_test

import (
	"fmt"
	"slices"
	"testing"

	"hachure/api"
	"hachure/blob"
)

// P16.1: Peek. What it refuses, Open refuses, too.

// marks are three bytes and fewer that begin no blob.
func marks() [][]byte {
	return [][]byte{{'g', 'P', 0}, {'G', 'p', 0}, {'G', 'P', 1}, {'P', 'G', 0}, {0, 'G', 'P'}, {'G', 'G', 0}, {'G', 0, 'P'}, {'G', 'P', 'K'}, {'G', 'P', 128}, {199, 'P', 0}, {0, 0, 0}, {255, 255, 255}}
}

// With right bytes a head is short till it is all there.
func TestPeekOfFewBytes(t *testing.T) {
	for _, flags := range []byte{0, little, boxed, boxed + little, empty, empty + little} {
		b := head(flags, 4326)
		size := bareSize
		if flags&boxed != 0 {
			b, size = head(flags, 4326, 1, 3, 2, 5), fullSize
		}
		for n := range size {
			wantNoHead(t, fmt.Sprint("flags ", flags, ", ", n, " bytes"), b[:n], api.ErrShort)
		}
		want := blob.Head{Srs: 4326, Little: flags&little != 0, Boxed: flags&boxed != 0, Empty: flags&empty != 0, Box: api.Box{None: true}}
		if want.Boxed {
			want.Box = around([]int{1, 3, 2, 5})
		}
		wantPeek(t, fmt.Sprint("flags ", flags), b, want, size)
		wantWrong(t, "a head alone", b, api.ErrShort)
	}
	wantNoHead(t, "nil", nil, api.ErrShort)
	wantNoHead(t, "no bytes", []byte{}, api.ErrShort)
}

// With a wrong byte it is bad, however few there are; but what is not there is not wrong.
func TestPeekOfFewBytesWithAnotherMark(t *testing.T) {
	for _, m := range marks() {
		right := 0
		for right < 3 && m[right] == []byte{'G', 'P', 0}[right] {
			right++
		}
		for _, rest := range [][]byte{head(0, 4326)[3:], head(boxed, 4326, 1, 3, 2, 5)[3:], head(boxed, 4326, 3, 1, 5, 2)[3:], many(40, byte(255)), many(40, byte(0))} {
			b := append(slices.Clone(m), rest...)
			for n := range len(b) + 1 {
				want := api.ErrBad
				if n <= right {
					want = api.ErrShort
				}
				wantNoHead(t, fmt.Sprint(m, ", ", n, " bytes"), b[:n], want)
			}
		}
	}
}

// Each flag by itself, and all others beside the right ones.
func TestPeekOfEachFlag(t *testing.T) {
	for f := range 256 {
		b := head(byte(f), 4326)
		if f&boxed != 0 {
			b = head(byte(f), 4326, 1, 3, 2, 5)
		}
		switch f {
		case 0, 1, 2, 3, 16, 17:
			for n := range len(b) {
				wantNoHead(t, fmt.Sprint("flags ", f, ", ", n, " bytes"), b[:n], api.ErrShort)
			}
			h := blob.Head{Srs: 4326, Little: f&1 != 0, Boxed: f&2 != 0, Empty: f&16 != 0, Box: api.Box{None: true}}
			if h.Boxed {
				h.Box = around([]int{1, 3, 2, 5})
			}
			wantPeek(t, fmt.Sprint("flags ", f), b, h, len(b))
		default:
			for n := 4; n <= len(b); n++ {
				wantNoHead(t, fmt.Sprint("flags ", f, ", ", n, " bytes"), b[:n], api.ErrBad)
			}
			wantNoHead(t, fmt.Sprint("flags ", f, " that are not there"), b[:3], api.ErrShort)
			wantNoHead(t, fmt.Sprint("flags ", f, ", and a shape"), append(slices.Clone(b), spelt(line(at(1, 2), at(3, 5)), always(f&1 != 0))...), api.ErrBad)
		}
	}
}

// The first wrong byte counts, and the mark and the flags alone: what stands behind them is not asked while bytes lack.
func TestPeekOfFewBytesOfABadBox(t *testing.T) {
	for _, lowest := range []byte{0, little} {
		for _, l := range [][]int{{3, 1, 2, 5}, {1, 3, 5, 2}, {3, 1, 5, 2}, {most, least, most, least}} {
			b := head(boxed+lowest, 4326, l...)
			for n := range fullSize {
				wantNoHead(t, fmt.Sprint("a bad box of ", n, " bytes"), b[:n], api.ErrShort)
			}
			wantNoHead(t, "a bad box", b, api.ErrBad)
		}
	}
}

// Ordinates are held against each other with their signs, in the flags' order.
func TestPeekOfBoxes(t *testing.T) {
	for _, l := range [][]int{
		{1, 3, 2, 5}, {0, 0, 0, 0}, {-1, 0, -1, 0}, {-5, -5, 7, 7}, {least, most, least, most}, {least, least, most, most}, {255, 256, 255, 256}, {-256, -255, 1, 0x0100000000000000},
		{1, 0, 0, 0}, {0, -1, 0, 0}, {0, 0, 1, 0}, {0, 0, 0, -1}, {256, 255, 0, 0}, {0, 0, 256, 255}, {0x0100000000000000, 1, 0, 0}, {most, least, 0, 0}, {0, 0, most, least}, {least + 1, least, 0, 0}, {0, 0, most, most - 1},
	} {
		for _, lowest := range both() {
			flags := byte(boxed)
			if lowest {
				flags += little
			}
			b, what := head(flags, -3, l...), fmt.Sprint("a box ", l)
			if l[0] > l[1] || l[2] > l[3] {
				wantNoHead(t, what, b, api.ErrBad)
				wantNoHead(t, what+" and more", append(b, spelt(rich(), always(lowest))...), api.ErrBad)
				continue
			}
			wantPeek(t, what, b, blob.Head{Srs: -3, Little: lowest, Boxed: true, Box: around(l)}, fullSize)
		}
	}
}

func TestPeekOfReferenceSystems(t *testing.T) {
	for _, srs := range systems() {
		for _, lowest := range both() {
			flags := byte(0)
			if lowest {
				flags = little
			}
			wantPeek(t, "bare", head(flags, srs), blob.Head{Srs: srs, Little: lowest, Box: api.Box{None: true}}, bareSize)
			wantPeek(t, "boxed", head(flags+boxed, srs, 1, 3, 2, 5), blob.Head{Srs: srs, Little: lowest, Boxed: true, Box: around([]int{1, 3, 2, 5})}, fullSize)
			wantPeek(t, "empty", head(flags+empty, srs), blob.Head{Srs: srs, Little: lowest, Empty: true, Box: api.Box{None: true}}, bareSize)
		}
	}
}

// What lies behind the head is not looked at.
func TestPeekLooksAtTheHeadAlone(t *testing.T) {
	for _, rest := range [][]byte{nil, {0}, {255}, many(1000, byte(255)), spelt(point(), always(false)), spelt(rich(), always(true))} {
		wantPeek(t, "bare", append(head(little, 4326), rest...), blob.Head{Srs: 4326, Little: true, Box: api.Box{None: true}}, bareSize)
		wantPeek(t, "boxed", append(head(boxed, 4326, 1, 3, 2, 5), rest...), blob.Head{Srs: 4326, Boxed: true, Box: around([]int{1, 3, 2, 5})}, fullSize)
		wantPeek(t, "empty", append(head(empty, 4326), rest...), blob.Head{Srs: 4326, Empty: true, Box: api.Box{None: true}}, bareSize)
	}
}
