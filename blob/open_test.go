package blob_test

import (
	"bytes"
	"fmt"
	"slices"
	"testing"

	"hachure/api"
	"hachure/blob"
)

// P16.2: Open, Canon, Box, Retag. What is asked of each blob is told by wantBlob, what of other bytes by wantWrong.

func TestOpenOfEachKind(t *testing.T) {
	for _, s := range all() {
		for _, lowest := range both() {
			for _, withBox := range both() {
				for _, srs := range []int{leastSrs, -2, 4326, mostSrs} {
					wantBlob(t, fmt.Sprint("kind ", s.Kind), speltBlob(s, srs, lowest, withBox), headOf(s, srs, lowest, withBox), s)
				}
			}
		}
	}
}

// The first byte of the wkb alone has to have the flags' order: parts may have another one.
func TestOpenOfOrders(t *testing.T) {
	for _, s := range all() {
		for _, lowest := range both() {
			for _, withBox := range both() {
				b := headBytes(s, 5, lowest, withBox)
				wantBlob(t, "parts in other orders", append(slices.Clone(b), spelt(s, turning(lowest))...), headOf(s, 5, lowest, withBox), s)
				wantWrong(t, "the other order", append(slices.Clone(b), spelt(s, always(!lowest))...), api.ErrBad)
				wantWrong(t, "the other order at first", append(slices.Clone(b), spelt(s, turning(!lowest))...), api.ErrBad)
			}
		}
	}
}

// Retag leaves all as it is but the reference system: the orders of parts, too.
func TestRetagOfPartsInOtherOrders(t *testing.T) {
	s := collection(point(at(1, 2)), line(row(2)...))
	wkb := spelt(s, turning(true))
	b := append(headBytes(s, 5, true, true), wkb...)
	want := append(headBytes(s, -7, true, true), wkb...)
	if got, err := blob.Retag(b, -7); err != api.OK || !bytes.Equal(got, want) {
		t.Errorf("Retag: %x, %s, want %x", got, err, want)
	}
	if got, err := blob.Retag(b, 5); err != api.OK || !bytes.Equal(got, b) {
		t.Errorf("Retag as it is: %x, %s, want %x", got, err, b)
	}
}

// A box that is Good, but is not the shape's.
func TestOpenOfAnotherBox(t *testing.T) {
	s := line(at(1, 5), at(3, 2))
	for _, lowest := range both() {
		wkb := spelt(s, always(lowest))
		flags := flagsOf(s, lowest, true)
		for _, l := range [][]int{
			{0, 3, 2, 5}, {2, 3, 2, 5}, {1, 2, 2, 5}, {1, 4, 2, 5}, {1, 3, 1, 5}, {1, 3, 3, 5}, {1, 3, 2, 4}, {1, 3, 2, 6},
			{2, 5, 1, 3}, {1, 2, 3, 5}, {0, 0, 0, 0}, {least, most, least, most}, {-3, -1, -5, -2}, {1, 1, 5, 5},
		} {
			b := append(head(flags, 7, l...), wkb...)
			wantPeek(t, "another box", b, blob.Head{Srs: 7, Little: lowest, Boxed: true, Box: around(l)}, fullSize)
			wantWrong(t, "another box", b, api.ErrBad)
		}
		wantBlob(t, "its own box", append(head(flags, 7, 1, 3, 2, 5), wkb...), headOf(s, 7, lowest, true), s)
		// Its words in the other order are other numbers.
		wantNoHead(t, "a box in the other order", slices.Concat(head(flags, 7), nums(!lowest, 1, 3, 5, 2), wkb), api.ErrBad)
		wantWrong(t, "a box in the other order", slices.Concat(head(flags, 7), nums(!lowest, 1, 3, 2, 5), wkb), api.ErrBad)
	}
}

// A box about a shape that has no points.
func TestOpenOfABoxAboutNothing(t *testing.T) {
	for _, s := range hollow() {
		for _, lowest := range both() {
			flags := flagsOf(s, lowest, false)
			wkb := spelt(s, always(lowest))
			for _, l := range [][]int{{0, 0, 0, 0}, {1, 3, 2, 5}, {least, least, least, least}} {
				b := append(head(flags-empty+boxed, 7, l...), wkb...)
				wantPeek(t, "boxed", b, blob.Head{Srs: 7, Little: lowest, Boxed: true, Box: around(l)}, fullSize)
				wantWrong(t, "boxed", b, api.ErrBad)
				wantNoHead(t, "boxed and empty", append(head(flags+boxed, 7, l...), wkb...), api.ErrBad)
			}
		}
	}
}

func TestOpenOfTheOtherFlagOfEmpty(t *testing.T) {
	for _, s := range all() {
		for _, lowest := range both() {
			b := append(head(flagsOf(s, lowest, false)^empty, 7), spelt(s, always(lowest))...)
			wantWrong(t, "the other flag", b, api.ErrBad)
			h := headOf(s, 7, lowest, false)
			h.Empty = !h.Empty
			wantPeek(t, "the other flag", b, h, bareSize)
		}
	}
}

func TestOpenOfWkbThatIsCut(t *testing.T) {
	for _, s := range []api.Shape{point(at(1, 2)), point(), line(row(3)...), rich()} {
		for _, lowest := range both() {
			for _, withBox := range both() {
				b := speltBlob(s, 7, lowest, withBox)
				for n := len(headBytes(s, 7, lowest, withBox)); n < len(b); n++ {
					wantWrong(t, fmt.Sprint(n, " bytes of ", len(b)), b[:n], api.ErrShort)
				}
			}
		}
	}
}

func TestOpenOfWkbThatGoesOn(t *testing.T) {
	for _, s := range all() {
		for _, lowest := range both() {
			for _, more := range [][]byte{{0}, {1}, {255}, many(8, byte(0)), spelt(s, always(lowest))} {
				wantWrong(t, "more bytes", append(speltBlob(s, 7, lowest, true), more...), api.ErrBad)
			}
		}
	}
}

// Wkb's Read's own errors.
func TestOpenOfWkbThatIsNone(t *testing.T) {
	for err, s := range unsound() {
		for _, lowest := range both() {
			wkb := spelt(s, always(lowest))
			for _, b := range [][]byte{head(flagsOf(s, lowest, false), 7), head(flagsOf(s, lowest, true), 7, corners(s)...)} {
				wantWrong(t, "a shape that may not be", append(b, wkb...), err)
			}
		}
	}
	for _, wkb := range [][]byte{{2}, {255, 0, 0, 0, 1}, {0, 0, 0, 0, 0}, {0, 0, 0, 0, 8, 0, 0, 0, 0}, {0, 1, 0, 0, 0, 0, 0, 0, 0}} {
		wantWrong(t, "no shape", append(head(empty, 7), wkb...), api.ErrBad)
	}
}

// Which error comes first: the head's, the wkb's, then what one says of the other.
func TestOpenTellsTheFirstError(t *testing.T) {
	deep, long, far := unsound()[api.ErrDeep], unsound()[api.ErrLong], unsound()[api.ErrRange]
	cut := func(b []byte) []byte { return b[:len(b)-1] }
	big, low := always(false), always(true)
	s := line(at(1, 5), at(3, 2))
	for _, c := range []struct {
		what string
		head []byte
		wkb  []byte
		err  api.Errno
	}{
		{"a bad box, cut", head(boxed, 7, 3, 1, 2, 5), cut(spelt(s, big)), api.ErrBad},
		{"a bad box, too deep", head(boxed, 7, 3, 1, 2, 5), spelt(deep, big), api.ErrBad},
		{"a bad box, a point that is nowhere", head(boxed, 7, 1, 3, 5, 2), spelt(far, big), api.ErrBad},
		{"a bad mark, too deep", append([]byte{'G', 'P', 1}, head(0, 7)[3:]...), spelt(deep, big), api.ErrBad},
		{"bad flags, too deep", head(4, 7), spelt(deep, big), api.ErrBad},
		{"another box, cut", head(boxed, 7, 0, 9, 0, 9), cut(spelt(s, big)), api.ErrShort},
		{"another box, too deep", head(boxed, 7, 0, 9, 0, 9), spelt(deep, big), api.ErrDeep},
		{"another box, too long", head(boxed, 7, 0, 9, 0, 9), spelt(long, big), api.ErrLong},
		{"another box, a point that is nowhere", head(boxed, 7, 0, 9, 0, 9), spelt(far, big), api.ErrRange},
		{"the other order, cut", head(little, 7), cut(spelt(s, big)), api.ErrShort},
		{"the other order, too deep", head(0, 7), spelt(deep, low), api.ErrDeep},
		{"the other order, too long", head(0, 7), spelt(long, low), api.ErrLong},
		{"the other order, a point that is nowhere", head(little, 7), spelt(far, big), api.ErrRange},
		{"not empty, cut", head(empty, 7), cut(spelt(s, big)), api.ErrShort},
		{"not empty, too deep", head(empty, 7), spelt(deep, big), api.ErrDeep},
		{"not empty, too long", head(empty, 7), spelt(long, big), api.ErrLong},
		{"not empty, a point that is nowhere", head(empty, 7), spelt(far, big), api.ErrRange},
		{"empty, cut", head(0, 7), cut(spelt(point(), big)), api.ErrShort},
		{"the other order, empty, another box", head(boxed+little, 7, 0, 9, 0, 9), spelt(point(), big), api.ErrBad},
	} {
		wantWrong(t, c.what, append(slices.Clone(c.head), c.wkb...), c.err)
	}
}

func TestCanon(t *testing.T) {
	for _, s := range all() {
		want := speltBlob(s, -9, false, true)
		for what, b := range map[string][]byte{
			"canonical": want, "little": speltBlob(s, -9, true, true), "not boxed": speltBlob(s, -9, false, false), "little, not boxed": speltBlob(s, -9, true, false),
			"in both orders": append(headBytes(s, -9, false, true), spelt(s, turning(false))...),
		} {
			got, err := blob.Canon(b)
			if err != api.OK || !bytes.Equal(got, want) {
				t.Errorf("Canon of what is %s: %.100x, %s, want %.100x", what, got, err, want)
			}
			if again, err := blob.Canon(got); err != api.OK || !bytes.Equal(again, got) {
				t.Errorf("Canon of Canon: %.100x, %s, want %.100x", again, err, got)
			}
		}
	}
}

func TestCanonOfWhatIsNone(t *testing.T) {
	for _, b := range [][]byte{nil, {'G'}, {'X'}, []byte("GP"), []byte("GPK"), many(100, byte(0))} {
		want := api.ErrBad
		if len(b) < 3 && (len(b) == 0 || b[0] == 'G') {
			want = api.ErrShort
		}
		if got, err := blob.Canon(b); err != want || len(got) != 0 {
			t.Errorf("Canon(%v): %x, %s, want %s", b, got, err, want)
		}
	}
}

func TestBox(t *testing.T) {
	s := line(at(1, 5), at(3, 2))
	want := api.Box{Low: at(1, 2), High: at(3, 5)}
	for _, lowest := range both() {
		for _, withBox := range both() {
			if got, err := blob.Box(speltBlob(s, 7, lowest, withBox)); err != api.OK || got != want {
				t.Errorf("Box: %v, %s, want %v", got, err, want)
			}
		}
	}
	for _, s := range hollow() {
		if got, err := blob.Box(speltBlob(s, 7, false, true)); err != api.OK || got != (api.Box{None: true}) {
			t.Errorf("Box of what is empty: %v, %s", got, err)
		}
	}
}

// A blob that is none is told ahead of a reference system that is none.
func TestRetagTellsTheFirstError(t *testing.T) {
	b := speltBlob(point(at(1, 2)), 7, true, true)
	for _, srs := range beyond() {
		for n := range len(b) {
			if got, err := blob.Retag(b[:n], srs); err != api.ErrShort || len(got) != 0 {
				t.Errorf("Retag of %d bytes, %d: %x, %s", n, srs, got, err)
			}
		}
		if got, err := blob.Retag(append(slices.Clone(b), 0), srs); err != api.ErrBad || len(got) != 0 {
			t.Errorf("Retag of what goes on, %d: %x, %s", srs, got, err)
		}
		if got, err := blob.Retag(b, srs); err != api.ErrArg || len(got) != 0 {
			t.Errorf("Retag(%d): %x, %s", srs, got, err)
		}
	}
	if got, err := blob.Retag(b[:len(b)-1], 8); err != api.ErrShort || len(got) != 0 {
		t.Errorf("Retag of what is cut: %x, %s", got, err)
	}
}
