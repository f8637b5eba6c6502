package box_test

import (
	"bytes"
	"encoding/binary"
	"fmt"
	"slices"
	"testing"

	"hachure/api"
	"hachure/box"
)

// P15.3: Bytes, Parse.

// spelt is four ordinates as bytes, by the chapter's words.
func spelt(lowX, highX, lowY, highY int) []byte {
	var out []byte
	for _, n := range []int{lowX, highX, lowY, highY} {
		out = binary.BigEndian.AppendUint64(out, uint64(n))
	}
	return out
}

func TestBytes(t *testing.T) {
	want := []byte{
		0, 0, 0, 0, 0, 0, 0, 1, 0, 0, 0, 0, 0, 0, 0, 3,
		255, 255, 255, 255, 255, 255, 255, 254, 1, 2, 3, 4, 5, 6, 7, 8,
	}
	b := from(1, -2, 3, 0x0102030405060708)
	if got := box.Bytes(b); !bytes.Equal(got, want) {
		t.Errorf("Bytes(%v): %v, want %v", b, got, want)
	}
	wantParse(t, "those bytes", want, b, api.OK)
	for _, b := range some() {
		want := spelt(b.Low.X, b.High.X, b.Low.Y, b.High.Y)
		if got := box.Bytes(b); !bytes.Equal(got, want) {
			t.Errorf("Bytes(%v): %v, want %v", b, got, want)
		}
		wantParse(t, "a box's bytes", want, b, api.OK)
	}
}

func TestBytesOfNothing(t *testing.T) {
	for _, b := range pointless() {
		if got := box.Bytes(b); len(got) != 0 {
			t.Errorf("Bytes(%v): %v", b, got)
		}
	}
}

// Bytes that were answered may be written over, and written on: no other answer is touched.
func TestBytesAreNew(t *testing.T) {
	b := from(1, 2, 3, 5)
	want := spelt(1, 3, 2, 5)
	first, second := box.Bytes(b), box.Bytes(b)
	for _, l := range [][]byte{first, append(first, 7, 7, 7, 7)} {
		l = l[:cap(l)]
		for i := range l {
			l[i] = 99
		}
	}
	if !bytes.Equal(second, want) || !bytes.Equal(box.Bytes(b), want) {
		t.Errorf("Bytes: %v, %v, want %v", second, box.Bytes(b), want)
	}
}

// Fewer than 32 bytes are short, be the ordinates that are there as they may; so is nothing, which None has as its bytes.
func TestParseOfFewBytes(t *testing.T) {
	for n := range 32 {
		for _, all := range [][]byte{spelt(1, 3, 2, 5), spelt(3, 1, 2, 5), spelt(1, 3, 5, 2), slices.Repeat([]byte{255}, 32), make([]byte, 32)} {
			wantParse(t, fmt.Sprint(n, " bytes"), all[:n], api.Box{}, api.ErrShort)
		}
	}
	if got, err := box.Parse(nil); got != (api.Box{}) || err != api.ErrShort {
		t.Errorf("Parse(nil): %v, %s", got, err)
	}
	if got, err := box.Parse(box.Bytes(box.None())); got != (api.Box{}) || err != api.ErrShort {
		t.Errorf("Parse of None's Bytes: %v, %s", got, err)
	}
}

func TestParseOfManyBytes(t *testing.T) {
	for _, b := range append(some(), unsound()...) {
		ahead := spelt(b.Low.X, b.High.X, b.Low.Y, b.High.Y)
		for _, n := range []int{1, 2, 7, 8, 32, 500} {
			wantParse(t, fmt.Sprint(n, " noughts behind"), append(slices.Clone(ahead), make([]byte, n)...), api.Box{}, api.ErrBad)
			wantParse(t, fmt.Sprint(n, " more bytes behind"), append(slices.Clone(ahead), slices.Repeat([]byte{255}, n)...), api.Box{}, api.ErrBad)
		}
		wantParse(t, "a box twice", append(slices.Clone(ahead), ahead...), api.Box{}, api.ErrBad)
	}
}

// Of 32 bytes, those whose Low is above High in one ordinate, or in both, are none.
func TestParseOfBadBoxes(t *testing.T) {
	for _, b := range [][]byte{
		spelt(3, 1, 2, 5), spelt(1, 3, 5, 2), spelt(3, 1, 5, 2),
		spelt(1, 0, 0, 0), spelt(0, 0, 1, 0), spelt(0, -1, 0, 0), spelt(0, 0, 0, -1),
		spelt(most, least, 0, 0), spelt(0, 0, most, least), spelt(most, most-1, 0, 0), spelt(0, 0, least+1, least),
	} {
		wantParse(t, "no Good box", b, api.Box{}, api.ErrBad)
	}
	for _, b := range unsound() {
		want, err := api.Box{}, api.ErrBad
		if b.None && b.Low.X <= b.High.X && b.Low.Y <= b.High.Y {
			// Bytes say nothing of None: these are the corners of a box that is Good.
			want, err = api.Box{Low: b.Low, High: b.High}, api.OK
		}
		wantParse(t, "a box that is not Good", spelt(b.Low.X, b.High.X, b.Low.Y, b.High.Y), want, err)
	}
}

// The words are held against one another with their signs.
func TestParseOfEachByte(t *testing.T) {
	for i := range 32 {
		for bit := range 8 {
			b := make([]byte, 32)
			b[i] = 1 << bit
			var n [4]int
			for k := range n {
				n[k] = int(binary.BigEndian.Uint64(b[8*k:]))
			}
			want, err := from(n[0], n[2], n[1], n[3]), api.OK
			if n[0] > n[1] || n[2] > n[3] {
				want, err = api.Box{}, api.ErrBad
			}
			wantParse(t, fmt.Sprint("byte ", i, ", bit ", bit), b, want, err)
		}
	}
}
