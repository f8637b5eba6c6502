package pager_test

import (
	"bytes"
	"math"
	"slices"
	"testing"

	"hachure/api"
	"hachure/disk"
	"hachure/pager"
)

func TestTheExample(t *testing.T) {
	d := disk.New(100)
	p := begun(t, d)
	n, e := p.Grow()
	must(t, e)
	if n != 1 {
		t.Errorf("the first page is %d", n)
	}
	must(t, p.Put(1, page(1)))
	must(t, p.Commit())
	wantPages(t, p, page(1))
	wantDisk(t, d, page(1))
	if d.Sectors(disk.Data) != 4 || d.Sectors(disk.Journal) != 0 || p.Commits() != 1 || p.Busy() {
		t.Errorf("%d and %d sectors, %d commits, %v", d.Sectors(disk.Data), d.Sectors(disk.Journal), p.Commits(), p.Busy())
	}
	again := opened(t, d)
	wantPages(t, again, page(1))
	if again.Commits() != 0 || again.Replayed() != 0 {
		t.Errorf("%d commits, %d replayed", again.Commits(), again.Replayed())
	}
}

func TestWhatATransactionSees(t *testing.T) {
	d := diskOf(t, 200, pages(1, 2, 3)...)
	p := opened(t, d)
	wantPages(t, p, pages(1, 2, 3)...)
	wantChanged(t, p)
	if p.Busy() {
		t.Error("a transaction goes on")
	}
	must(t, p.Begin())
	if !p.Busy() {
		t.Error("no transaction goes on")
	}
	wantPages(t, p, pages(1, 2, 3)...)
	must(t, p.Put(2, page(12)))
	wantPages(t, p, pages(1, 12, 3)...)
	wantChanged(t, p, 2)
	must(t, p.Put(2, page(22)))
	wantPages(t, p, pages(1, 22, 3)...)
	wantChanged(t, p, 2)
	grown(t, p, page(4))
	must(t, p.Put(1, page(11)))
	wantPages(t, p, pages(11, 22, 3, 4)...)
	wantChanged(t, p, 1, 2, 4)
	must(t, p.Commit())
	wantPages(t, p, pages(11, 22, 3, 4)...)
	wantDisk(t, d, pages(11, 22, 3, 4)...)
	wantChanged(t, p)
	wantPages(t, opened(t, d), pages(11, 22, 3, 4)...)
}

func TestAPageThatIsPutIsChangedWhateverItsBytes(t *testing.T) {
	p := begun(t, diskOf(t, 200, page(1)))
	must(t, p.Put(1, page(1)))
	wantChanged(t, p, 1)
	must(t, p.Commit())
	if p.Commits() != 1 {
		t.Errorf("%d commits", p.Commits())
	}
}

func TestPagesOfNoughts(t *testing.T) {
	noughts := make([]byte, size)
	d := diskOf(t, 200, page(1), page(2))
	p := begun(t, d)
	must(t, p.Shrink(1))
	wantPages(t, p, page(1))
	wantChanged(t, p)
	for want := 2; want <= 4; want++ {
		n, e := p.Grow()
		must(t, e)
		if n != want {
			t.Errorf("the new page is %d, want %d", n, want)
		}
	}
	wantPages(t, p, page(1), noughts, noughts, noughts)
	wantChanged(t, p, 2, 3, 4)
	must(t, p.Commit())
	wantPages(t, p, page(1), noughts, noughts, noughts)
	wantDisk(t, d, page(1), noughts, noughts, noughts)
}

func TestPagesThatWereGrownAndAreNoMore(t *testing.T) {
	d := diskOf(t, 200, pages(1, 2)...)
	p := begun(t, d)
	grown(t, p, page(3))
	grown(t, p, page(4))
	must(t, p.Shrink(3))
	wantPages(t, p, pages(1, 2, 3)...)
	wantChanged(t, p, 3)
	n, e := p.Grow()
	must(t, e)
	if b, e := p.Get(n); n != 4 || e != api.OK || !bytes.Equal(b, make([]byte, size)) {
		t.Errorf("page %d: %s, or not of noughts", n, e)
	}
	must(t, p.Shrink(2))
	wantChanged(t, p)
	ops := d.Ops()
	must(t, p.Commit())
	if d.Ops() != ops || p.Commits() != 0 || p.Busy() {
		t.Errorf("%d operations, %d commits, busy %v, though nothing was changed", d.Ops()-ops, p.Commits(), p.Busy())
	}
	wantPages(t, p, pages(1, 2)...)
	wantDisk(t, d, pages(1, 2)...)
}

func TestAChangedPageThatIsNoMore(t *testing.T) {
	d := diskOf(t, 200, pages(1, 2, 3)...)
	p := begun(t, d)
	must(t, p.Put(3, page(33)))
	must(t, p.Put(1, page(11)))
	must(t, p.Shrink(2))
	wantChanged(t, p, 1)
	wantPages(t, p, pages(11, 2)...)
	wantErr(t, "Put of a page that is no more", p.Put(3, page(9)), api.ErrRange)
	must(t, p.Commit())
	wantDisk(t, d, pages(11, 2)...)
	wantPages(t, opened(t, d), pages(11, 2)...)
}

func TestShrink(t *testing.T) {
	for n := 0; n <= 5; n++ {
		d := diskOf(t, 200, pages(1, 2, 3, 4, 5)...)
		p := opened(t, d)
		// All of them are in the cache, and those that are no more must go from there.
		wantPages(t, p, pages(1, 2, 3, 4, 5)...)
		must(t, p.Begin())
		must(t, p.Shrink(n))
		wantChanged(t, p)
		wantPages(t, p, pages(upTo(n)...)...)
		must(t, p.Commit())
		wantPages(t, p, pages(upTo(n)...)...)
		wantDisk(t, d, pages(upTo(n)...)...)
		if want := min(5-n, 1); p.Commits() != want || p.Cached() != n {
			t.Errorf("Shrink(%d): %d commits, %d pages in the cache", n, p.Commits(), p.Cached())
		}
		must(t, p.Begin())
		grown(t, p, page(50))
		must(t, p.Commit())
		wantPages(t, p, append(pages(upTo(n)...), page(50))...)
		wantDisk(t, d, append(pages(upTo(n)...), page(50))...)
	}
}

func TestNoPages(t *testing.T) {
	d := disk.New(1)
	p := opened(t, d)
	wantPages(t, p)
	must(t, p.Begin())
	wantPages(t, p)
	must(t, p.Shrink(0))
	must(t, p.Commit())
	if p.Commits() != 0 || d.Ops() != 0 || p.Cached() != 0 {
		t.Errorf("%d commits, %d operations, %d pages in the cache", p.Commits(), d.Ops(), p.Cached())
	}
}

func TestACommitThatChangesNothing(t *testing.T) {
	d := diskOf(t, 200, pages(1, 2)...)
	was := lookAt(t, d)
	p := begun(t, d)
	must(t, p.Commit())
	must(t, p.Begin())
	m := marked(t, p)
	must(t, p.Put(1, page(9)))
	grown(t, p, page(3))
	must(t, p.Undo(m))
	wantChanged(t, p)
	must(t, p.Commit())
	must(t, p.Begin())
	must(t, p.Shrink(2))
	must(t, p.Commit())
	wantAlike(t, "the disk", d, was)
	if p.Busy() || p.Commits() != 0 {
		t.Errorf("busy %v, %d commits", p.Busy(), p.Commits())
	}
	wantErr(t, "Commit once more", p.Commit(), api.ErrState)
	wantPages(t, p, pages(1, 2)...)
}

func TestRollback(t *testing.T) {
	d := diskOf(t, 200, pages(1, 2, 3)...)
	was := lookAt(t, d)
	p := begun(t, d)
	must(t, p.Put(2, page(22)))
	marked(t, p)
	must(t, p.Shrink(2))
	grown(t, p, page(33))
	grown(t, p, page(44))
	marked(t, p)
	must(t, p.Rollback())
	wantPages(t, p, pages(1, 2, 3)...)
	wantChanged(t, p)
	wantAlike(t, "the disk", d, was)
	if p.Busy() || p.Commits() != 0 {
		t.Errorf("busy %v, %d commits", p.Busy(), p.Commits())
	}
	wantErr(t, "Rollback once more", p.Rollback(), api.ErrState)
	must(t, p.Begin())
	wantErr(t, "Undo of a mark ahead of Begin", p.Undo(1), api.ErrNone)
	wantMark(t, p, 1)
	must(t, p.Rollback())
	wantPages(t, p, pages(1, 2, 3)...)
}

func TestMarks(t *testing.T) {
	d := diskOf(t, 200, pages(1, 2, 3)...)
	p := begun(t, d)
	wantMark(t, p, 1)
	must(t, p.Put(1, page(11)))
	wantMark(t, p, 2)
	must(t, p.Put(1, page(21)))
	must(t, p.Shrink(1))
	grown(t, p, page(22))
	wantMark(t, p, 3)
	must(t, p.Shrink(0))
	wantPages(t, p)

	must(t, p.Undo(3))
	wantPages(t, p, pages(21, 22)...)
	wantChanged(t, p, 1, 2)
	must(t, p.Put(2, page(32)))
	grown(t, p, page(33))
	must(t, p.Undo(3))
	wantPages(t, p, pages(21, 22)...)
	wantChanged(t, p, 1, 2)

	must(t, p.Undo(2))
	wantPages(t, p, pages(11, 2, 3)...)
	wantChanged(t, p, 1)
	wantErr(t, "Undo of a mark that was undone past", p.Undo(3), api.ErrNone)
	wantPages(t, p, pages(11, 2, 3)...)
	must(t, p.Undo(2))

	must(t, p.Undo(1))
	wantPages(t, p, pages(1, 2, 3)...)
	wantChanged(t, p)
	wantErr(t, "Undo of a mark that was undone past", p.Undo(2), api.ErrNone)
	must(t, p.Put(3, page(43)))
	wantMark(t, p, 4)
	must(t, p.Put(3, page(53)))
	wantNone(t, p, 2, 3)
	must(t, p.Undo(4))
	must(t, p.Commit())
	wantDisk(t, d, pages(1, 2, 43)...)
	must(t, p.Begin())
	wantErr(t, "Undo of a mark ahead of Begin", p.Undo(1), api.ErrNone)
}

func TestAMarkThatWasUndonePastStaysGone(t *testing.T) {
	p := begun(t, disk.New(100))
	wantMark(t, p, 1)
	wantMark(t, p, 2)
	must(t, p.Undo(1))
	wantNone(t, p, 2, 3)
	wantMark(t, p, 3)
	wantNone(t, p, 2, 4)
	must(t, p.Undo(3))
	must(t, p.Undo(3))
	wantMark(t, p, 4)
	wantMark(t, p, 5)
	must(t, p.Undo(4))
	wantNone(t, p, 2, 5, 6)
	wantMark(t, p, 6)
	must(t, p.Undo(3))
	wantNone(t, p, 2, 4, 5, 6)
	must(t, p.Undo(1))
	wantNone(t, p, 2, 3, 4, 5, 6, 7)
	wantMark(t, p, 7)
	must(t, p.Undo(7))
}

func TestPagesOfMarksThatCameBehindThoseThatWent(t *testing.T) {
	d := diskOf(t, 200, pages(1, 2)...)
	p := begun(t, d)
	grown(t, p, page(3))
	wantMark(t, p, 1)
	grown(t, p, page(4))
	must(t, p.Put(1, page(11)))
	wantMark(t, p, 2)
	must(t, p.Undo(1))
	wantPages(t, p, pages(1, 2, 3)...)
	grown(t, p, page(24))
	grown(t, p, page(25))
	wantMark(t, p, 3)
	must(t, p.Shrink(1))
	wantNone(t, p, 2)
	wantPages(t, p, page(1))
	wantChanged(t, p)
	must(t, p.Undo(3))
	wantPages(t, p, pages(1, 2, 3, 24, 25)...)
	wantChanged(t, p, 3, 4, 5)
	must(t, p.Put(2, page(32)))
	wantMark(t, p, 4)
	must(t, p.Undo(1))
	wantPages(t, p, pages(1, 2, 3)...)
	wantChanged(t, p, 3)
	wantNone(t, p, 2, 3, 4)
	must(t, p.Commit())
	wantDisk(t, d, pages(1, 2, 3)...)
}

func TestMarksOfTheNextTransaction(t *testing.T) {
	ends := []func(t *testing.T, p *pager.Pager){
		func(t *testing.T, p *pager.Pager) { must(t, p.Rollback()) },
		func(t *testing.T, p *pager.Pager) { must(t, p.Commit()) },
		func(t *testing.T, p *pager.Pager) {
			must(t, p.Put(1, page(2)))
			must(t, p.Commit())
		},
	}
	for _, end := range ends {
		p := opened(t, diskOf(t, 200, page(1)))
		for range 3 {
			must(t, p.Begin())
			wantNone(t, p, 1, 2, 3, 4)
			wantMark(t, p, 1)
			wantMark(t, p, 2)
			must(t, p.Undo(1))
			wantMark(t, p, 3)
			wantNone(t, p, 2, 4)
			must(t, p.Undo(3))
			must(t, p.Undo(1))
			end(t, p)
		}
	}
}

func TestAFullDiskLeavesMarksAsTheyAre(t *testing.T) {
	p := begun(t, diskOf(t, 4, page(1)))
	wantMark(t, p, 1)
	must(t, p.Put(1, page(2)))
	wantMark(t, p, 2)
	must(t, p.Undo(1))
	must(t, p.Put(1, page(3)))
	wantMark(t, p, 3)
	wantErr(t, "Commit without room", p.Commit(), api.ErrFull)
	wantNone(t, p, 2, 4)
	wantMark(t, p, 4)
	must(t, p.Undo(3))
	wantPages(t, p, page(3))
	must(t, p.Undo(1))
	wantPages(t, p, page(1))
	wantNone(t, p, 2, 3, 4)
	wantMark(t, p, 5)
}

func TestMarksWithoutAChangeBetween(t *testing.T) {
	p := begun(t, diskOf(t, 200, page(1)))
	for i := 1; i <= 20; i++ {
		wantMark(t, p, i)
	}
	must(t, p.Put(1, page(2)))
	for i := 20; i >= 1; i-- {
		must(t, p.Undo(i))
		wantPages(t, p, page(1))
		must(t, p.Put(1, page(100+i)))
	}
}

func TestWrongMarks(t *testing.T) {
	p := begun(t, disk.New(100))
	for _, m := range []int{math.MinInt, -1, 0, 1, 2, math.MaxInt} {
		wantErr(t, "Undo without marks", p.Undo(m), api.ErrNone)
	}
	marked(t, p)
	grown(t, p, page(1))
	marked(t, p)
	for _, m := range []int{math.MinInt, math.MinInt + 1, -2, -1, 0, 3, 4, 1 << 32, 1<<32 + 1, math.MaxInt} {
		wantErr(t, "Undo", p.Undo(m), api.ErrNone)
	}
	wantPages(t, p, page(1))
}

// noPages are numbers of pages that are not, of three.
var noPages = []int{math.MinInt, math.MinInt + 1, -4, -1, 0, 4, 5, most, most + 1, 1 << 31, 1 << 32, 1<<32 + 1, math.MaxInt - 1, math.MaxInt}

func TestWrongPages(t *testing.T) {
	p := begun(t, diskOf(t, 200, pages(1, 2, 3)...))
	for _, n := range noPages {
		if b, e := p.Get(n); e != api.ErrRange || b != nil {
			t.Errorf("Get(%d): %d bytes, %s", n, len(b), e)
		}
		wantErr(t, "Put", p.Put(n, page(1)), api.ErrRange)
		wantErr(t, "Put of no bytes", p.Put(n, nil), api.ErrRange)
		if n != 0 {
			wantErr(t, "Shrink", p.Shrink(n), api.ErrRange)
		}
	}
	wantChanged(t, p)
	wantPages(t, p, pages(1, 2, 3)...)
}

func TestWrongBytes(t *testing.T) {
	p := begun(t, diskOf(t, 200, page(1)))
	for _, n := range []int{0, 1, sector, size - 1, size + 1, 2 * size, 100000} {
		wantErr(t, "Put", p.Put(1, make([]byte, n)), api.ErrArg)
	}
	wantErr(t, "Put of nil", p.Put(1, nil), api.ErrArg)
	wantErr(t, "Put of no bytes, but room", p.Put(1, make([]byte, 0, size)), api.ErrArg)
	wantChanged(t, p)
	wantPages(t, p, page(1))
}

func TestCallsOutOfTheirState(t *testing.T) {
	d := diskOf(t, 200, pages(1, 2)...)
	was := lookAt(t, d)
	p := opened(t, d)
	for _, n := range noPages {
		wantErr(t, "Put", p.Put(n, nil), api.ErrState)
		wantErr(t, "Shrink", p.Shrink(n), api.ErrState)
		wantErr(t, "Undo", p.Undo(n), api.ErrState)
	}
	wantErr(t, "Put", p.Put(1, page(5)), api.ErrState)
	wantErr(t, "Shrink", p.Shrink(1), api.ErrState)
	wantErr(t, "Commit", p.Commit(), api.ErrState)
	wantErr(t, "Rollback", p.Rollback(), api.ErrState)
	if n, e := p.Grow(); n != 0 || e != api.ErrState {
		t.Errorf("Grow: %d, %s", n, e)
	}
	if n, e := p.Mark(); n != 0 || e != api.ErrState {
		t.Errorf("Mark: %d, %s", n, e)
	}
	wantPages(t, p, pages(1, 2)...)
	must(t, p.Begin())
	must(t, p.Put(1, page(9)))
	m := marked(t, p)
	must(t, p.Put(1, page(10)))
	wantErr(t, "Begin in a transaction", p.Begin(), api.ErrState)
	wantPages(t, p, pages(10, 2)...)
	must(t, p.Undo(m))
	wantPages(t, p, pages(9, 2)...)
	wantAlike(t, "the disk", d, was)
}

func TestGrowAtTheMost(t *testing.T) {
	d := disk.New(api.MaxSectors)
	p := begun(t, d)
	for i := range most {
		n, e := p.Grow()
		if n != i+1 || e != api.OK {
			t.Fatalf("Grow: %d, %s", n, e)
		}
	}
	for range 3 {
		if n, e := p.Grow(); n != 0 || e != api.ErrFull {
			t.Errorf("Grow at the most: %d, %s", n, e)
		}
	}
	must(t, p.Put(most, page(1)))
	if p.Pages() != most || !slices.Equal(p.Changed(), upTo(most)) {
		t.Errorf("%d pages, %d changed", p.Pages(), len(p.Changed()))
	}
	must(t, p.Commit())
	if d.Sectors(disk.Data) != most*perPage || p.Commits() != 1 {
		t.Errorf("%d sectors, %d commits", d.Sectors(disk.Data), p.Commits())
	}
	q := begun(t, d)
	if b, e := q.Get(most); e != api.OK || !bytes.Equal(b, page(1)) {
		t.Errorf("the last page: %s, or other bytes", e)
	}
	if n, e := q.Grow(); n != 0 || e != api.ErrFull {
		t.Errorf("Grow at the most: %d, %s", n, e)
	}
	must(t, q.Shrink(most-1))
	n, e := q.Grow()
	if n != most || e != api.OK {
		t.Errorf("Grow below the most: %d, %s", n, e)
	}
	must(t, q.Shrink(0))
	// A record for each page that is no more is more than the disk has room for.
	wantErr(t, "Commit without room", q.Commit(), api.ErrFull)
	if q.Pages() != 0 || !q.Busy() || d.Sectors(disk.Data) != most*perPage || d.Sectors(disk.Journal) != 0 {
		t.Errorf("%d pages, busy %v, %d and %d sectors", q.Pages(), q.Busy(), d.Sectors(disk.Data), d.Sectors(disk.Journal))
	}
}

func TestMorePagesThanTheCacheHasRoomFor(t *testing.T) {
	for _, room := range []int{8, 9, 100, 4096} {
		const n = 120
		d := diskOf(t, 2000, pages(upTo(n)...)...)
		p, e := pager.Open(d, room)
		must(t, e)
		if p.Cached() != 0 {
			t.Errorf("%d pages in the cache ahead of the first Get", p.Cached())
		}
		want := pages(upTo(n)...)
		for i := 1; i <= n; i++ {
			if b, e := p.Get(i); e != api.OK || !bytes.Equal(b, want[i-1]) {
				t.Fatalf("Get(%d): %s, or other bytes", i, e)
			}
			if p.Cached() != min(i, room) {
				t.Fatalf("room for %d: %d pages in the cache behind %d Gets", room, p.Cached(), i)
			}
		}
		must(t, p.Begin())
		for i := n; i >= 1; i -= 3 {
			want[i-1] = page(1000 + i)
			must(t, p.Put(i, want[i-1]))
		}
		for i := range 30 {
			want = append(want, page(2000+i))
			grown(t, p, want[len(want)-1])
		}
		wantPages(t, p, want...)
		must(t, p.Commit())
		wantPages(t, p, want...)
		wantDisk(t, d, want...)
		if p.Cached() != min(len(want), room) {
			t.Errorf("room for %d: %d pages in the cache", room, p.Cached())
		}
	}
}

func TestACachedPageIsNotReadAgain(t *testing.T) {
	d := diskOf(t, 200, pages(1, 2)...)
	p := opened(t, d)
	_, e := p.Get(1)
	must(t, e)
	// What lies under the cache is asked only for what the cache has not.
	d.Crash(disk.Crash{})
	if b, e := p.Get(1); e != api.OK || !bytes.Equal(b, page(1)) {
		t.Errorf("a page of the cache: %s, or other bytes", e)
	}
	if b, e := p.Get(2); e != api.ErrPower || b != nil {
		t.Errorf("a page of a disk without power: %d bytes, %s", len(b), e)
	}
	wantErr(t, "Get of no page", func() api.Errno { _, e := p.Get(3); return e }(), api.ErrRange)
	must(t, d.Start())
	wantPages(t, p, pages(1, 2)...)
}

func TestWithoutPower(t *testing.T) {
	d := diskOf(t, 200, pages(1, 2)...)
	p := opened(t, d)
	d.Crash(disk.Crash{})
	must(t, p.Begin())
	must(t, p.Put(1, page(11)))
	n, e := p.Grow()
	if n != 3 || e != api.OK {
		t.Errorf("Grow: %d, %s", n, e)
	}
	must(t, p.Undo(marked(t, p)))
	wantChanged(t, p, 1, 3)
	must(t, p.Rollback())
	must(t, p.Begin())
	must(t, p.Commit())
	must(t, p.Begin())
	must(t, p.Put(1, page(11)))
	wantErr(t, "Commit", p.Commit(), api.ErrPower)
	wantDead(t, p)
	must(t, d.Start())
	wantDead(t, p)
	wantPages(t, opened(t, d), pages(1, 2)...)
}

// wantErrors holds what each call of a pager answers against one error, whatever the call is asked.
func wantErrors(t *testing.T, p *pager.Pager, want api.Errno) {
	t.Helper()
	for _, n := range append(noPages, 1, 2, 3) {
		for _, b := range [][]byte{nil, page(1), make([]byte, 1)} {
			wantErr(t, "Put", p.Put(n, b), want)
		}
		wantErr(t, "Shrink", p.Shrink(n), want)
		wantErr(t, "Undo", p.Undo(n), want)
		if b, e := p.Get(n); b != nil || e != want {
			t.Errorf("Get: %d bytes, %s, want %s", len(b), e, want)
		}
	}
	wantErr(t, "Begin", p.Begin(), want)
	wantErr(t, "Commit", p.Commit(), want)
	wantErr(t, "Rollback", p.Rollback(), want)
	if n, e := p.Grow(); n != 0 || e != want {
		t.Errorf("Grow: %d, %s, want %s", n, e, want)
	}
	if n, e := p.Mark(); n != 0 || e != want {
		t.Errorf("Mark: %d, %s, want %s", n, e, want)
	}
	if p.Pages() != 0 || p.Busy() || len(p.Changed()) != 0 || p.Cached() != 0 || p.Commits() != 0 || p.Replayed() != 0 {
		t.Errorf("%d pages, busy %v, changed %v, %d in the cache, %d commits, %d replayed", p.Pages(), p.Busy(), p.Changed(), p.Cached(), p.Commits(), p.Replayed())
	}
}

func wantDead(t *testing.T, p *pager.Pager) {
	t.Helper()
	wantErrors(t, p, api.ErrPower)
}

func TestAPagerThatNoCallMade(t *testing.T) {
	var none *pager.Pager
	wantErrors(t, none, api.ErrMade)
	wantErrors(t, &pager.Pager{}, api.ErrMade)
	zero := new(pager.Pager)
	wantErr(t, "Begin", zero.Begin(), api.ErrMade)
	wantErrors(t, zero, api.ErrMade)
}

func TestMemory(t *testing.T) {
	d := diskOf(t, 200, pages(1, 2)...)
	p := begun(t, d)
	wide := append(page(5), page(6)...)
	was := bytes.Clone(wide)
	must(t, p.Put(1, wide[:size]))
	m := marked(t, p)
	for i := range wide {
		wide[i] ^= 255
	}
	wantPages(t, p, pages(5, 2)...)
	copy(wide, was)
	must(t, p.Put(2, wide[:size:size]))
	must(t, p.Commit())
	if !bytes.Equal(wide, was) {
		t.Error("what was handed in is changed")
	}
	wide[0] ^= 255
	wantPages(t, p, pages(5, 5)...)

	// What is told is the caller's: from the cache, from the disk, from the transaction.
	for range 2 {
		q := begun(t, d)
		for range 3 {
			spoil(t, q, 1)
			wantPages(t, q, pages(5, 5)...)
		}
		must(t, q.Put(1, page(7)))
		m = marked(t, q)
		spoil(t, q, 1)
		wantPages(t, q, pages(7, 5)...)
		must(t, q.Put(1, page(8)))
		must(t, q.Undo(m))
		spoil(t, q, 1)
		must(t, q.Undo(m))
		wantPages(t, q, pages(7, 5)...)
		l := q.Changed()
		l[0] = 99
		wantChanged(t, q, 1)
		n, e := q.Grow()
		must(t, e)
		spoil(t, q, n)
		wantPages(t, q, page(7), page(5), make([]byte, size))
	}
	wantDisk(t, d, pages(5, 5)...)
}

// spoil changes what Get told of a page, and the room behind it.
func spoil(t *testing.T, p *pager.Pager, number int) {
	t.Helper()
	b, e := p.Get(number)
	must(t, e)
	b = b[:cap(b)]
	for i := range b {
		b[i] ^= 255
	}
}
