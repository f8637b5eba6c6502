package pager_test

import (
	"bytes"
	"slices"
	"testing"

	"hachure/api"
	"hachure/disk"
	"hachure/journal"
	"hachure/pager"
)

// operation is something that is done to a disk.
type operation func(d *disk.Disk) api.Errno

func writing(file, at int, b []byte) operation {
	return func(d *disk.Disk) api.Errno { return d.Write(file, at, b) }
}

func syncing(file int) operation {
	return func(d *disk.Disk) api.Errno { return d.Sync(file) }
}

func cutting(file, n int) operation {
	return func(d *disk.Disk) api.Errno { return d.Cut(file, n) }
}

// done does operations up to the first one that fails: its error.
func done(d *disk.Disk, ops []operation) api.Errno {
	for _, op := range ops {
		if e := op(d); e != api.OK {
			return e
		}
	}
	return api.OK
}

// change is what a transaction does to pages.
type change struct {
	what string
	room int
	from [][]byte // the pages that there are
	to   [][]byte // the pages that it makes of them
	set  []int    // those that it changes
	old  []int    // those that the journal has
	do   func(t *testing.T, p *pager.Pager)
}

// changes are transactions of all sorts: more pages, as many, fewer, none.
func changes() []change {
	noughts := make([]byte, size)
	return []change{
		{what: "the first page", room: 40, to: pages(11), set: []int{1}, do: func(t *testing.T, p *pager.Pager) {
			grown(t, p, page(11))
		}},
		{what: "one page", room: 40, from: pages(1), to: pages(11), set: []int{1}, old: []int{1}, do: func(t *testing.T, p *pager.Pager) {
			must(t, p.Put(1, page(11)))
		}},
		{what: "some pages", room: 100, from: pages(1, 2, 3, 4), to: pages(1, 12, 3, 14), set: []int{2, 4}, old: []int{2, 4}, do: func(t *testing.T, p *pager.Pager) {
			must(t, p.Put(4, page(14)))
			must(t, p.Put(2, page(12)))
		}},
		{what: "more pages", room: 100, from: pages(1, 2), to: pages(1, 12, 13, 14), set: []int{2, 3, 4}, old: []int{2}, do: func(t *testing.T, p *pager.Pager) {
			must(t, p.Put(2, page(12)))
			grown(t, p, page(13))
			grown(t, p, page(14))
		}},
		{what: "only more pages", room: 100, from: pages(1), to: [][]byte{page(1), noughts, noughts}, set: []int{2, 3}, do: func(t *testing.T, p *pager.Pager) {
			for range 2 {
				_, e := p.Grow()
				must(t, e)
			}
		}},
		{what: "fewer pages", room: 100, from: pages(1, 2, 3, 4), to: pages(11, 2), set: []int{1}, old: []int{1, 3, 4}, do: func(t *testing.T, p *pager.Pager) {
			must(t, p.Put(1, page(11)))
			must(t, p.Put(4, page(14)))
			must(t, p.Shrink(2))
		}},
		{what: "only fewer pages", room: 100, from: pages(1, 2, 3), to: pages(1, 2), old: []int{3}, do: func(t *testing.T, p *pager.Pager) {
			must(t, p.Shrink(2))
		}},
		{what: "no pages", room: 100, from: pages(1, 2, 3), old: []int{1, 2, 3}, do: func(t *testing.T, p *pager.Pager) {
			must(t, p.Shrink(0))
		}},
		{what: "other pages", room: 100, from: pages(1, 2, 3), to: [][]byte{page(1), noughts}, set: []int{2}, old: []int{2, 3}, do: func(t *testing.T, p *pager.Pager) {
			grown(t, p, page(14))
			must(t, p.Shrink(1))
			_, e := p.Grow()
			must(t, e)
		}},
		{what: "others, and more", room: 200, from: pages(1, 2, 3), to: pages(21, 22, 23, 24, 25), set: []int{1, 2, 3, 4, 5}, old: []int{1, 2, 3}, do: func(t *testing.T, p *pager.Pager) {
			must(t, p.Shrink(0))
			for i := 1; i <= 5; i++ {
				grown(t, p, page(20+i))
			}
		}},
		{what: "what is left of marks", room: 100, from: pages(1, 2), to: pages(1, 12, 13), set: []int{2, 3}, old: []int{2}, do: func(t *testing.T, p *pager.Pager) {
			must(t, p.Put(2, page(12)))
			grown(t, p, page(13))
			m := marked(t, p)
			must(t, p.Put(1, page(99)))
			must(t, p.Shrink(1))
			must(t, p.Undo(m))
		}},
	}
}

// disk is one of so much room with the pages that there are.
func (c change) disk(t *testing.T, room int) *disk.Disk {
	t.Helper()
	return diskOf(t, room, c.from...)
}

// ready is a pager over d whose transaction made the change.
func (c change) ready(t *testing.T, d *disk.Disk) *pager.Pager {
	t.Helper()
	p := begun(t, d)
	c.do(t, p)
	return p
}

// journal is the head and the records that the commit writes.
func (c change) journal(nonce uint64) (journal.Head, []journal.Record) {
	var l []journal.Record
	for _, n := range c.old {
		l = append(l, journal.Record{Page: n, Data: c.from[n-1]})
	}
	return journal.Head{Count: len(l), Pages: len(c.from), Nonce: nonce}, l
}

// operations are what the chapter says that the commit does to the disk, in its order.
func (c change) operations(nonce uint64) []operation {
	h, l := c.journal(nonce)
	out := []operation{
		writing(disk.Journal, 0, journal.Bytes(h, l, false)),
		syncing(disk.Journal),
		writing(disk.Journal, 0, journal.HeadBytes(h, true)),
		syncing(disk.Journal),
	}
	for _, n := range c.set {
		out = append(out, writing(disk.Data, (n-1)*perPage, c.to[n-1]))
	}
	out = append(out, syncing(disk.Data))
	if len(c.to) < len(c.from) {
		out = append(out, cutting(disk.Data, len(c.to)*perPage))
	}
	return append(out, cutting(disk.Journal, 0))
}

// undoing are what leads back from pages that were written.
func (c change) undoing(nonce uint64) []operation {
	_, l := c.journal(nonce)
	var out []operation
	for _, r := range l {
		out = append(out, writing(disk.Data, (r.Page-1)*perPage, r.Data))
	}
	if len(c.to) > len(c.from) {
		out = append(out, func(d *disk.Disk) api.Errno {
			if d.Sectors(disk.Data) == len(c.from)*perPage {
				return api.OK
			}
			return d.Cut(disk.Data, len(c.from)*perPage)
		})
	}
	return append(out, syncing(disk.Data), cutting(disk.Journal, 0))
}

// nonce is the one of the journal that the commit writes; the chapter says nothing of it.
func (c change) nonce(t *testing.T) uint64 {
	t.Helper()
	d := c.disk(t, c.room)
	p := c.ready(t, d)
	must(t, d.Arm(4, disk.Crash{Keep: []bool{true}}))
	wantErr(t, "Commit", p.Commit(), api.ErrPower)
	must(t, d.Start())
	h, l, e := journal.Parse(fileOf(t, d, disk.Journal))
	must(t, e)
	if h.Pages != len(c.from) || len(l) != len(c.old) {
		t.Errorf("%s: a journal of %d records and %d pages", c.what, len(l), h.Pages)
	}
	return h.Nonce
}

func TestTheCommitStepByStep(t *testing.T) {
	for _, c := range changes() {
		ops := c.operations(c.nonce(t))
		for n := 1; n <= len(ops); n++ {
			for _, crash := range crashes() {
				d, want := c.disk(t, c.room), c.disk(t, c.room)
				p := c.ready(t, d)
				must(t, d.Arm(n, crash))
				must(t, want.Arm(n, crash))
				wantErr(t, "Commit", p.Commit(), api.ErrPower)
				wantErr(t, "the steps", done(want, ops), api.ErrPower)
				wantAlike(t, c.what, d, lookAt(t, want))
				wantDead(t, p)
				must(t, d.Start())
				wantDead(t, p)
			}
		}
		d, want := c.disk(t, c.room), c.disk(t, c.room)
		p := c.ready(t, d)
		must(t, p.Commit())
		must(t, done(want, ops))
		wantAlike(t, c.what, d, lookAt(t, want))
		wantPages(t, p, c.to...)
		wantDisk(t, d, c.to...)
		wantChanged(t, p)
		if p.Commits() != 1 || p.Busy() || p.Replayed() != 0 {
			t.Errorf("%s: %d commits, busy %v, %d replayed", c.what, p.Commits(), p.Busy(), p.Replayed())
		}
		wantErr(t, "Commit once more", p.Commit(), api.ErrState)
	}
}

// most sectors that both files have at once within the commit.
func (c change) need() int {
	return max(len(c.from), len(c.to))*perPage + journal.Sectors(len(c.old))
}

// wantGoesOn asks that the transaction be what the change made it, and the disk what it was at Begin.
func (c change) wantGoesOn(t *testing.T, p *pager.Pager, d *disk.Disk) {
	t.Helper()
	wantPages(t, p, c.to...)
	wantChanged(t, p, c.set...)
	wantDisk(t, d, c.from...)
	if !p.Busy() || p.Commits() != 0 {
		t.Errorf("%s: busy %v, %d commits", c.what, p.Busy(), p.Commits())
	}
}

func TestAFullDisk(t *testing.T) {
	for _, c := range changes() {
		nonce := c.nonce(t)
		for room := max(len(c.from)*perPage, 1); room <= c.need()+1; room++ {
			d, want := c.disk(t, room), c.disk(t, room)
			p := c.ready(t, d)
			m := marked(t, p)
			e := p.Commit()
			steps := done(want, c.operations(nonce))
			wantErr(t, c.what, e, steps)
			if room >= c.need() {
				wantErr(t, c.what, e, api.OK)
				wantDisk(t, d, c.to...)
				continue
			}
			wantErr(t, c.what, e, api.ErrFull)
			if want.Sectors(disk.Journal) > 0 {
				must(t, done(want, c.undoing(nonce)))
			}
			wantAlike(t, c.what, d, lookAt(t, want))
			c.wantGoesOn(t, p, d)
			wantErr(t, "Commit once more", p.Commit(), api.ErrFull)
			must(t, p.Undo(m))
			c.wantGoesOn(t, p, d)
			wantErr(t, "Begin", p.Begin(), api.ErrState)
			must(t, p.Rollback())
			wantPages(t, p, c.from...)
			wantPages(t, opened(t, d), c.from...)
		}
	}
}

func TestATransactionThatGoesOnBehindAFullDisk(t *testing.T) {
	// Room for one page more, with its journal, but not for two.
	d := diskOf(t, 4*perPage+journal.Sectors(1), pages(1, 2, 3)...)
	p := begun(t, d)
	must(t, p.Put(2, page(12)))
	grown(t, p, page(4))
	m := marked(t, p)
	grown(t, p, page(5))
	wantErr(t, "Commit of two pages more", p.Commit(), api.ErrFull)
	wantPages(t, p, pages(1, 12, 3, 4, 5)...)
	must(t, p.Put(5, page(55)))
	wantErr(t, "Commit of two pages more", p.Commit(), api.ErrFull)
	wantPages(t, p, pages(1, 12, 3, 4, 55)...)
	must(t, p.Undo(m))
	must(t, p.Commit())
	wantPages(t, p, pages(1, 12, 3, 4)...)
	wantDisk(t, d, pages(1, 12, 3, 4)...)
	must(t, p.Begin())
	must(t, p.Put(1, page(11)))
	must(t, p.Commit())
	wantDisk(t, d, pages(11, 12, 3, 4)...)
	if p.Commits() != 2 || p.Replayed() != 0 {
		t.Errorf("%d commits, %d replayed", p.Commits(), p.Replayed())
	}
}

func TestPowerWithinWhatAFullDiskUndoes(t *testing.T) {
	for _, c := range changes() {
		for room := max(len(c.from)*perPage, 1); room < c.need(); room++ {
			for _, crash := range crashes() {
				for n := 1; ; n++ {
					d := c.disk(t, room)
					p := c.ready(t, d)
					must(t, d.Arm(n, crash))
					if e := p.Commit(); e == api.ErrFull {
						break
					} else if e != api.ErrPower {
						t.Fatalf("%s: %s", c.what, e)
					}
					wantDead(t, p)
					must(t, d.Start())
					wantPages(t, opened(t, d), c.from...)
					wantDisk(t, d, c.from...)
				}
			}
		}
	}
}

// told is all pages that a pager has, one behind the other.
func told(t *testing.T, p *pager.Pager) []byte {
	t.Helper()
	var out []byte
	for i := range p.Pages() {
		b, e := p.Get(i + 1)
		must(t, e)
		out = append(out, b...)
	}
	return out
}

// wantEither opens a disk, twice, and holds what it tells against the pages ahead of the commit and behind it.
func (c change) wantEither(t *testing.T, d *disk.Disk) {
	t.Helper()
	must(t, d.Start())
	p := opened(t, d)
	got := told(t, p)
	if !bytes.Equal(got, slices.Concat(c.from...)) && !bytes.Equal(got, slices.Concat(c.to...)) {
		t.Fatalf("%s: %d pages, neither those ahead of the commit nor those behind it", c.what, p.Pages())
	}
	again := opened(t, d)
	if !bytes.Equal(told(t, again), got) || again.Replayed() != 0 {
		t.Errorf("%s: opened again it tells others", c.what)
	}
	if d.Sectors(disk.Journal) != 0 || d.Dirty(disk.Data) != 0 {
		t.Errorf("%s: a journal of %d sectors, %d dirty", c.what, d.Sectors(disk.Journal), d.Dirty(disk.Data))
	}
}

func TestPowerAtEachOperation(t *testing.T) {
	for _, c := range changes() {
		t.Run(c.what, func(t *testing.T) {
			t.Parallel()
			for _, crash := range crashes() {
				fallAtEach(t, c, crash)
			}
		})
	}
}

// fallAtEach lets the power go at each operation of the commit, and of recoveries from that.
func fallAtEach(t *testing.T, c change, crash disk.Crash) {
	t.Helper()
	for n := 1; ; n++ {
		d := c.disk(t, c.room)
		p := c.ready(t, d)
		must(t, d.Arm(n, crash))
		if e := p.Commit(); e == api.OK {
			wantPages(t, opened(t, d), c.to...)
			return
		} else if e != api.ErrPower {
			t.Fatalf("%s: %s", c.what, e)
		}
		c.wantEither(t, d.Copy())
		fallAgain(t, c, d, 2)
	}
}

// fallAgain lets the power go at each operation of the recovery, and, if depth is above 1, of the recovery from that.
func fallAgain(t *testing.T, c change, d *disk.Disk, depth int) {
	t.Helper()
	some := crashes()
	for n := 1; ; n++ {
		fell := false
		// In turn, for all losses after all losses after all losses would take long.
		for i, crash := range some {
			if every := 5 - depth; i%every != n%every {
				continue
			}
			again := d.Copy()
			must(t, again.Start())
			must(t, again.Arm(n, crash))
			if _, e := pager.Open(again, 8); e == api.OK {
				continue
			} else if e != api.ErrPower {
				t.Fatalf("%s: %s", c.what, e)
			}
			fell = true
			c.wantEither(t, again.Copy())
			if depth > 1 {
				fallAgain(t, c, again, depth-1)
			}
		}
		if !fell {
			return
		}
	}
}

func TestWhatIsCommittedStays(t *testing.T) {
	for _, c := range changes() {
		for _, crash := range crashes() {
			d := c.disk(t, c.room)
			p := c.ready(t, d)
			must(t, p.Commit())
			d.Crash(crash)
			must(t, d.Start())
			wantPages(t, opened(t, d), c.to...)
		}
	}
}

func TestWhatIsNotCommittedIsNotOnTheDisk(t *testing.T) {
	for _, c := range changes() {
		d := c.disk(t, c.room)
		was := lookAt(t, d)
		p := c.ready(t, d)
		wantAlike(t, c.what, d, was)
		wantPages(t, p, c.to...)
		d.Crash(disk.Crash{Keep: []bool{true}})
		must(t, d.Start())
		wantPages(t, opened(t, d), c.from...)
	}
}

func TestCommits(t *testing.T) {
	d := disk.New(400)
	p := opened(t, d)
	for i := 1; i <= 10; i++ {
		must(t, p.Begin())
		grown(t, p, page(i))
		must(t, p.Commit())
		must(t, p.Begin())
		must(t, p.Commit())
		must(t, p.Begin())
		grown(t, p, page(i))
		must(t, p.Rollback())
		if p.Commits() != i {
			t.Errorf("%d commits, want %d", p.Commits(), i)
		}
	}
	wantDisk(t, d, pages(upTo(10)...)...)
}

func TestJournalsDoNotPassForOneAnother(t *testing.T) {
	// The same change of two commits: their journals differ, for a record must not pass for another journal's.
	d := diskOf(t, 100, page(1))
	p := opened(t, d)
	seen := map[uint64]bool{}
	for i := range 5 {
		must(t, p.Begin())
		must(t, p.Put(1, page(2+i)))
		must(t, p.Commit())
		c := d.Copy()
		q := begun(t, c)
		must(t, q.Put(1, page(1)))
		must(t, c.Arm(4, disk.Crash{Keep: []bool{true}}))
		wantErr(t, "Commit", q.Commit(), api.ErrPower)
		must(t, c.Start())
		h, _, e := journal.Parse(fileOf(t, c, disk.Journal))
		must(t, e)
		if seen[h.Nonce] {
			t.Errorf("two journals with the nonce %d", h.Nonce)
		}
		seen[h.Nonce] = true
	}
}
