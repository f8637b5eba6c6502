package blob_test

import (
	"bytes"
	"encoding/binary"
	"fmt"
	"slices"
	"testing"

	"hachure/api"
	"hachure/blob"
	"hachure/wkb"
)

// A model by the chapter's words: what Peek and Open tell of any bytes.

// peeked is the head that bytes begin with, and how many bytes it has.
func peeked(b []byte) (blob.Head, int, api.Errno) {
	for i, c := range []byte{'G', 'P', 0} {
		if i < len(b) && b[i] != c {
			return blob.Head{}, 0, api.ErrBad
		}
	}
	if len(b) > 3 && !slices.Contains([]byte{0, 1, 2, 3, 16, 17}, b[3]) {
		return blob.Head{}, 0, api.ErrBad
	}
	if len(b) < bareSize || b[3]&boxed != 0 && len(b) < fullSize {
		return blob.Head{}, 0, api.ErrShort
	}
	h := blob.Head{Little: b[3]&little != 0, Boxed: b[3]&boxed != 0, Empty: b[3]&empty != 0, Box: api.Box{None: true}}
	order := binary.ByteOrder(binary.BigEndian)
	if h.Little {
		order = binary.LittleEndian
	}
	h.Srs = int(int32(order.Uint32(b[4:])))
	if !h.Boxed {
		return h, bareSize, api.OK
	}
	var l []int
	for i := bareSize; i < fullSize; i += 8 {
		l = append(l, int(order.Uint64(b[i:])))
	}
	if l[0] > l[1] || l[2] > l[3] {
		return blob.Head{}, 0, api.ErrBad
	}
	h.Box = around(l)
	return h, fullSize, api.OK
}

// opened is the head and the shape of bytes.
func opened(b []byte) (blob.Head, api.Shape, api.Errno) {
	h, n, err := peeked(b)
	if err != api.OK {
		return blob.Head{}, api.Shape{}, err
	}
	s, err := wkb.Read(b[n:])
	if err != api.OK {
		return blob.Head{}, api.Shape{}, err
	}
	bad := b[n] == 1 != h.Little || h.Empty != (len(points(s)) == 0) || h.Boxed && h.Box != around(corners(s))
	if bad {
		return blob.Head{}, api.Shape{}, api.ErrBad
	}
	return h, s, api.OK
}

// wantModel holds all calls of bytes to the model.
func wantModel(t *testing.T, what string, b []byte) {
	t.Helper()
	_, _, noHead := peeked(b)
	h, s, err := opened(b)
	switch {
	case noHead != api.OK:
		wantNoHead(t, what, b, noHead)
	case err != api.OK:
		h, n, _ := peeked(b)
		wantPeek(t, what, b, h, n)
		wantWrong(t, what, b, err)
	default:
		wantBlob(t, what, b, h, s)
	}
	if t.Failed() {
		t.Fatalf("of %x", b)
	}
}

// Each bit of some blobs is turned, and each byte of their heads is each other one.
func TestEachBit(t *testing.T) {
	for _, s := range []api.Shape{point(at(1, 2)), point(), line(at(1, 5), at(3, 2)), collection(point(at(-1, 7)), line())} {
		for _, lowest := range both() {
			for _, withBox := range both() {
				b := speltBlob(s, 4326, lowest, withBox)
				for i := range b {
					for bit := range 8 {
						c := slices.Clone(b)
						c[i] ^= 1 << bit
						wantModel(t, fmt.Sprint("byte ", i, ", bit ", bit), c)
					}
				}
				for i := range bareSize {
					for v := range 256 {
						c := slices.Clone(b)
						c[i] = byte(v)
						wantModel(t, fmt.Sprint("byte ", i, " is ", v), c)
					}
				}
			}
		}
	}
}

// Some blobs are cut at each place, and lack each byte, and have one more at each place.
func TestEachPlace(t *testing.T) {
	for _, s := range []api.Shape{point(at(1, 2)), point(), line(at(1, 5), at(3, 2))} {
		for _, lowest := range both() {
			for _, withBox := range both() {
				b := speltBlob(s, -1, lowest, withBox)
				for i := range b {
					wantModel(t, fmt.Sprint(i, " bytes"), b[:i])
					wantModel(t, fmt.Sprint("without byte ", i), slices.Delete(slices.Clone(b), i, i+1))
					for _, c := range []byte{0, 1, 2, 'G', 255} {
						wantModel(t, fmt.Sprint(c, " at ", i), slices.Insert(slices.Clone(b), i, c))
					}
				}
			}
		}
	}
}

// P16.3: what follows, of shapes that were thrown.
func TestThereAndBack(t *testing.T) {
	for seed := range 3000 {
		d := thrown(seed)
		s, srs, lowest, withBox := d.shape(1+d.under(7), 1+d.under(12)), d.system(), d.is(), d.is()
		b := blob.Make(s, srs, lowest, withBox)
		wantMake(t, "thrown", s, srs, lowest, withBox, speltBlob(s, srs, lowest, withBox))
		wantBlob(t, "thrown", b, headOf(s, srs, lowest, withBox), s)
		wantFollows(t, b)
		mixed := append(headBytes(s, srs, lowest, withBox), spelt(s, d.startingWith(lowest))...)
		wantBlob(t, "in any orders", mixed, headOf(s, srs, lowest, withBox), s)
		wantFollows(t, mixed)
		if t.Failed() {
			t.Fatalf("seed %d: %v", seed, s)
		}
	}
}

// startingWith is an order, and any behind it.
func (d *dice) startingWith(first bool) func() bool {
	begun := false
	return func() bool {
		if !begun {
			begun = true
			return first
		}
		return d.is()
	}
}

// wantFollows holds a blob to what the chapter says follows.
func wantFollows(t *testing.T, b []byte) {
	t.Helper()
	h, s, _ := blob.Open(b)
	canon, err := blob.Canon(b)
	if again, e := blob.Canon(canon); err != api.OK || e != api.OK || !bytes.Equal(again, canon) {
		t.Errorf("Canon of Canon: %x, %s, want %x, %s", again, e, canon, err)
	}
	if g, r, err := blob.Open(canon); err != api.OK || text(r) != text(s) || g != headOf(s, h.Srs, false, true) {
		t.Errorf("Open of Canon: %v, %.300s, %s, want %.300s", g, text(r), err, text(s))
	}
	if len(b) == len(canon) && h.Boxed != !h.Empty {
		t.Errorf("Canon adds no box: %x", canon)
	}
}

// Blobs that were thrown, and are spoilt in some places.
func TestSpoiltBlobs(t *testing.T) {
	for seed := range 6000 {
		d := thrown(seed + 100000)
		s, lowest := d.shape(1+d.under(7), 1+d.under(8)), d.is()
		b := append(headBytes(s, d.system(), lowest, d.is()), spelt(s, d.startingWith(d.is()))...)
		for range d.under(4) {
			switch i := d.under(len(b)); d.under(5) {
			case 0:
				b[i] ^= 1 << d.under(8)
			case 1:
				b[i] = byte(d.under(256))
			case 2:
				b = slices.Concat(b[:i], b[min(i+1+d.under(8), len(b)):])
			case 3:
				b = slices.Concat(b[:i], many(1+d.under(8), byte(d.under(256))), b[i:])
			case 4:
				b[min(3, len(b)-1)] = []byte{0, 1, 2, 3, 16, 17, 18, 19}[d.under(8)]
			}
			if len(b) == 0 {
				break
			}
		}
		wantModel(t, fmt.Sprint("seed ", seed), b)
	}
}

func FuzzModel(f *testing.F) {
	for _, s := range []api.Shape{point(at(1, 2)), point(), line(at(1, 5), at(3, 2)), polygon(ring(4)), rich()} {
		for _, lowest := range both() {
			for _, withBox := range both() {
				f.Add(speltBlob(s, 4326, lowest, withBox))
			}
		}
	}
	f.Fuzz(func(t *testing.T, b []byte) {
		wantModel(t, "any bytes", b)
	})
}
