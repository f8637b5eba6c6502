package spill_test

import (
	"bytes"
	"math"
	"slices"
	"testing"

	"hachure/api"
	"hachure/disk"
	"hachure/spill"
)

func TestTheExample(t *testing.T) {
	if n := spill.Count(509); n != 2 {
		t.Errorf("509 bytes need %d pages", n)
	}
	p, h := made(t, 1)
	at := written(t, h, value(1, 509))
	if at != 2 || p.Pages() != 3 {
		t.Errorf("the first one is %d of %d pages", at, p.Pages())
	}
	wantPages(t, h, at, 509, 2, 3)
}

func TestCount(t *testing.T) {
	if spill.Room != room {
		t.Errorf("Room: %d", spill.Room)
	}
	cases := []struct{ n, want int }{
		{math.MinInt, 0}, {-509, 0}, {-508, 0}, {-1, 0}, {0, 0},
		{1, 1}, {2, 1}, {507, 1}, {508, 1}, {509, 2}, {1015, 2}, {1016, 2}, {1017, 3},
		{payload, 40}, {payload + 1, 40}, {40 * room, 40}, {40*room + 1, 41},
		{math.MaxInt - 1, math.MaxInt/room + 1}, {math.MaxInt, math.MaxInt/room + 1},
		{math.MaxInt / room * room, math.MaxInt / room},
	}
	for _, c := range cases {
		if n := spill.Count(c.n); n != c.want {
			t.Errorf("Count(%d): %d, want %d", c.n, n, c.want)
		}
	}
}

// sizes are those at whose sides a chain has other numbers of pages, and others.
func sizes() []int {
	return []int{1, 2, 507, 508, 509, 1015, 1016, 1017, 5080, 5081, 39 * room, 39*room + 1, payload - 1, payload}
}

func TestValuesOfAllSizes(t *testing.T) {
	for _, n := range sizes() {
		p, h := made(t, 1)
		b := value(n, n)
		at := written(t, h, b)
		count := (n + room - 1) / room
		if at != 2 || p.Pages() != 1+count {
			t.Fatalf("%d bytes: the first page is %d of %d", n, at, p.Pages())
		}
		wantLaid(t, p, b, span(2, 1+count)...)
		wantPages(t, h, at, n, span(2, 1+count)...)
		wantRead(t, h, at, b)
		wantFree(t, h)
		must(t, spill.Free(h, at, n))
		wantFree(t, h, span(2, 1+count)...)
	}
}

// TestBytesThatOthersLaid: what the form says is read, whoever wrote it, wherever its pages stand.
func TestBytesThatOthersLaid(t *testing.T) {
	p, h := made(t, most)
	b := value(3, 1600)
	pages := []int{most, 2, 700, 3}
	chained(t, p, b, pages...)
	wantPages(t, h, most, 1600, pages...)
	wantRead(t, h, most, b)
	// As many pages have other lengths, too, if noughts end them.
	wantPages(t, h, most, 4*room, pages...)
	wantRead(t, h, most, append(b, make([]byte, 4*room-1600)...))
	wantPages(t, h, most, 3*room+1, pages...)
	// A chain has a chain behind each of its pages.
	wantPages(t, h, 700, 1600-2*room, 700, 3)
	wantRead(t, h, 700, b[2*room:])
	must(t, spill.Free(h, most, 1600))
	wantFree(t, h, pages...)
}

// TestNoughtsWithinAValue are bytes like others.
func TestNoughtsWithinAValue(t *testing.T) {
	_, h := made(t, 1)
	for _, b := range [][]byte{{0}, make([]byte, room), make([]byte, room+1), make([]byte, payload), {7, 0}, {0, 7}} {
		at := written(t, h, b)
		wantRead(t, h, at, b)
		must(t, spill.Free(h, at, len(b)))
	}
}

func TestReadIsLongerByNoughtsAlone(t *testing.T) {
	_, h := made(t, 1)
	at := written(t, h, []byte{5, 6, 0, 0})
	for _, n := range []int{2, 3, 4, 5, 507, 508} {
		want := make([]byte, n)
		copy(want, []byte{5, 6})
		wantRead(t, h, at, want)
	}
}

// TestPagesAreTaken: those that are free first, as the heap gives them, then new ones.
func TestPagesAreTaken(t *testing.T) {
	p, h := made(t, 9)
	given(t, h, 4, 8, 6)
	b := value(1, 1500)
	if at := written(t, h, b); at != 6 {
		t.Errorf("the first page is %d", at)
	}
	wantPages(t, h, 6, 1500, 6, 8, 4)
	wantLaid(t, p, b, 6, 8, 4)
	wantFree(t, h)
	given(t, h, 9, 3)
	c := value(2, 2000)
	written(t, h, c)
	wantPages(t, h, 3, 2000, 3, 9, 10, 11)
	wantLaid(t, p, c, 3, 9, 10, 11)
	wantRead(t, h, 6, b)
	if p.Pages() != 11 {
		t.Errorf("%d pages", p.Pages())
	}
	given(t, h, 2, 5, 7)
	written(t, h, value(3, 509))
	wantPages(t, h, 7, 509, 7, 5)
	wantFree(t, h, 2)
}

// TestPagesOfSeveralTrunks: a value takes leaves, the trunk, and leaves of the next one.
func TestPagesOfSeveralTrunks(t *testing.T) {
	p, h := made(t, 200)
	given(t, h, span(2, 2+leaves+5)...)
	b := value(4, 10*room)
	at := written(t, h, b)
	second := 2 + leaves + 1
	want := slices.Concat(falling(second+4, second+1), []int{second}, falling(second-1, second-5))
	if at != want[0] {
		t.Errorf("the first page is %d", at)
	}
	wantPages(t, h, at, len(b), want...)
	wantLaid(t, p, b, want...)
	wantFree(t, h, span(2, second-6)...)
}

// TestNoughtsBehindTheEnd: also where a page was of other bytes.
func TestNoughtsBehindTheEnd(t *testing.T) {
	p, h := made(t, 5)
	for n := 2; n <= 5; n++ {
		must(t, p.Put(n, bytes.Repeat([]byte{0xEE}, size)))
	}
	given(t, h, 2, 3, 4, 5)
	written(t, h, value(1, 510))
	wantLaid(t, p, value(1, 510), 5, 4)
	written(t, h, value(2, 509))
	wantLaid(t, p, value(2, 509), 3, 2)
}

func TestFreedInOrder(t *testing.T) {
	p, h := made(t, 9)
	given(t, h, 5, 3, 9, 7)
	at := written(t, h, value(1, 1600))
	wantPages(t, h, at, 1600, 7, 9, 3, 5)
	must(t, spill.Free(h, at, 1600))
	// The first one is the trunk, the others are its leaves.
	wantFree(t, h, 7, 9, 3, 5)
	at = written(t, h, value(2, 1017))
	wantPages(t, h, at, 1017, 5, 3, 9)
	must(t, spill.Free(h, at, 1017))
	wantFree(t, h, 7, 5, 3, 9)
	if p.Pages() != 9 {
		t.Errorf("%d pages", p.Pages())
	}
}

// TestFreeOverAFullTrunk: a page of the chain is the next trunk.
func TestFreeOverAFullTrunk(t *testing.T) {
	p, h := made(t, 140)
	given(t, h, span(2, 2+leaves-2)...)
	chained(t, p, value(1, 2000), 135, 133, 134, 132)
	must(t, spill.Free(h, 135, 2000))
	wantFree(t, h, slices.Concat([]int{134, 132}, span(2, leaves), []int{135, 133})...)
}

// TestFreeLooksNotAtBytes: those behind the end are Read's alone.
func TestFreeLooksNotAtBytes(t *testing.T) {
	p, h := made(t, 3)
	must(t, p.Put(2, linkPage(3, value(1, room))))
	must(t, p.Put(3, linkPage(0, value(2, room))))
	wantPages(t, h, 2, 600, 2, 3)
	if b, e := spill.Read(h, 2, 600); len(b) != 0 || e != api.ErrBad {
		t.Errorf("Read: %d bytes, %s", len(b), e)
	}
	must(t, spill.Free(h, 2, 600))
	wantFree(t, h, 2, 3)
}

func TestChainsBesideOneAnother(t *testing.T) {
	p, h := made(t, 1)
	var at []int
	for i, n := range sizes() {
		at = append(at, written(t, h, value(i, n)))
	}
	for i, n := range sizes() {
		wantRead(t, h, at[i], value(i, n))
	}
	pages := p.Pages()
	for i, n := range sizes() {
		if i%2 == 0 {
			must(t, spill.Free(h, at[i], n))
		}
	}
	for i, n := range sizes() {
		if i%2 == 1 {
			wantRead(t, h, at[i], value(i, n))
		}
	}
	for i, n := range sizes() {
		if i%2 == 0 {
			at[i] = written(t, h, value(i+100, n))
		}
	}
	for i, n := range sizes() {
		wantRead(t, h, at[i], value(i+(1-i%2)*100, n))
	}
	wantFree(t, h)
	if p.Pages() != pages {
		t.Errorf("%d pages, want %d", p.Pages(), pages)
	}
}

func TestOtherPagesStay(t *testing.T) {
	p, h := made(t, 20)
	mine := func(n int) []byte { return bytes.Repeat([]byte{0xA5, byte(n)}, size/2) }
	for n := 2; n <= 20; n++ {
		must(t, p.Put(n, mine(n)))
	}
	must(t, h.Set(0, -7))
	given(t, h, 5, 6, 7)
	at := written(t, h, value(1, 3000))
	wantPages(t, h, at, 3000, 7, 6, 5, 21, 22, 23)
	must(t, spill.Free(h, at, 3000))
	for n := 2; n <= 20; n++ {
		if n < 5 || n > 7 {
			wantPage(t, p, n, mine(n))
		}
	}
	if n, e := h.Word(0); n != -7 || e != api.OK {
		t.Errorf("Word: %d, %s", n, e)
	}
}

// TestReadingIsForNoTransaction, and changes nothing in one.
func TestReadingIsForNoTransaction(t *testing.T) {
	d := disk.New(roomy)
	p, h := madeOn(t, d, 1)
	b := value(1, 1700)
	at := written(t, h, b)
	must(t, p.Commit())
	for range 2 {
		wantUnchanged(t, p, func() {
			wantRead(t, h, at, b)
			wantPages(t, h, at, len(b), 2, 3, 4, 5)
		})
		p = opened(t, d)
		h = mustOpen(t, p)
	}
	must(t, p.Begin())
	wantUnchanged(t, p, func() {
		wantRead(t, h, at, b)
		wantPages(t, h, at, len(b), 2, 3, 4, 5)
	})
	must(t, spill.Free(h, at, len(b)))
	must(t, p.Commit())
	wantFree(t, mustOpen(t, opened(t, d)), 2, 3, 4, 5)
}

func TestRollbackAndUndo(t *testing.T) {
	p, h := made(t, 4)
	given(t, h, 3, 2)
	b := value(1, 800)
	at := written(t, h, b)
	must(t, p.Commit())
	must(t, p.Begin())
	must(t, spill.Free(h, at, 800))
	c := written(t, h, value(2, payload))
	wantRead(t, h, c, value(2, payload))
	must(t, p.Rollback())
	wantRead(t, h, at, b)
	wantFree(t, h)
	must(t, p.Begin())
	m, e := p.Mark()
	must(t, e)
	wantUnchanged(t, p, func() {
		must(t, spill.Free(h, at, 800))
		written(t, h, value(3, 5000))
		must(t, p.Undo(m))
	})
	wantRead(t, h, at, b)
}

// TestNoMarkIsMade: marks are kept as long as a transaction, and are the caller's.
func TestNoMarkIsMade(t *testing.T) {
	p, h := made(t, 5)
	given(t, h, 4, 3)
	for i := range 5 {
		at := written(t, h, value(i, 3000))
		wantRead(t, h, at, value(i, 3000))
		must(t, spill.Free(h, at, 3000))
	}
	if e := p.Undo(1); e != api.ErrNone {
		t.Errorf("Undo: %s", e)
	}
	if m, e := p.Mark(); m != 1 || e != api.OK {
		t.Errorf("Mark: %d, %s", m, e)
	}
}

// TestADiskThatIsFull: the commit is refused, the value stays with the transaction.
func TestADiskThatIsFull(t *testing.T) {
	p, h := madeOn(t, disk.New(40), 1)
	must(t, p.Commit())
	must(t, p.Begin())
	b := value(1, payload)
	at := written(t, h, b)
	wantErr(t, "Commit", p.Commit(), api.ErrFull)
	wantRead(t, h, at, b)
	must(t, spill.Free(h, at, payload))
	must(t, h.Trim(1))
	at = written(t, h, b[:1000])
	must(t, p.Commit())
	wantRead(t, h, at, b[:1000])
}

func TestMemory(t *testing.T) {
	p, h := made(t, 1)
	all := value(1, 1300)
	b := all[100:1200]
	mine := bytes.Clone(b)
	at := written(t, h, b)
	if !bytes.Equal(all, value(1, 1300)) {
		t.Error("what was handed in, or what lies beside it, was changed")
	}
	clear(all)
	wantRead(t, h, at, mine)
	wantUnchanged(t, p, func() {
		got, e := spill.Read(h, at, 1100)
		must(t, e)
		clear(got[:cap(got)])
		l, e := spill.Pages(h, at, 1100)
		must(t, e)
		clear(l[:cap(l)])
	})
	wantRead(t, h, at, mine)
	wantPages(t, h, at, 1100, 2, 3, 4)
	first, e := spill.Read(h, at, 1100)
	must(t, e)
	second, e := spill.Read(h, at, 1100)
	must(t, e)
	clear(second[:cap(second)])
	if !bytes.Equal(first, mine) {
		t.Error("two answers share memory")
	}
}

// TestRoomBehindTheEnd: what lies there is not written.
func TestRoomBehindTheEnd(t *testing.T) {
	p, h := made(t, 1)
	b := value(2, 600)[:509:600]
	at := written(t, h, b)
	wantLaid(t, p, b, at, at+1)
}

// TestCachesOfAllSizes: a chain that has more pages than the cache has room.
func TestCachesOfAllSizes(t *testing.T) {
	d := disk.New(roomy)
	p, h := madeOn(t, d, 1)
	at := written(t, h, value(9, payload))
	must(t, p.Commit())
	p = opened(t, d)
	h = mustOpen(t, p)
	for range 3 {
		wantRead(t, h, at, value(9, payload))
		wantPages(t, h, at, payload, span(2, 41)...)
	}
	must(t, p.Begin())
	must(t, spill.Free(h, at, payload))
	must(t, p.Commit())
	wantFree(t, h, span(2, 41)...)
}
