package pager_test

import (
	"bytes"
	"math"
	"slices"
	"testing"

	"hachure/api"
	"hachure/disk"
	"hachure/journal"
	"hachure/pager"
)

// wantNoOpen asks that Open answer an error, no pager, and leave the disk as it is.
func wantNoOpen(t *testing.T, what string, d *disk.Disk, room int, want api.Errno) {
	t.Helper()
	was := lookAt(t, d)
	p, e := pager.Open(d, room)
	if e != want || p != nil {
		t.Errorf("%s: %v, %s, want %s", what, p != nil, e, want)
	}
	wantAlike(t, what, d, was)
}

func TestOpenOfNoDisk(t *testing.T) {
	for _, room := range []int{math.MinInt, 0, 7, 8, 4096, 4097} {
		for _, d := range []*disk.Disk{nil, {}} {
			if p, e := pager.Open(d, room); p != nil || e != api.ErrMade {
				t.Errorf("Open of a disk that no call made, room for %d: %v, %s", room, p != nil, e)
			}
		}
	}
}

func TestRooms(t *testing.T) {
	wrong := []int{math.MinInt, -8, -1, 0, 1, 7, 4097, 5000, 1 << 32, 1<<32 + 8, math.MaxInt}
	for _, room := range wrong {
		wantNoOpen(t, "a wrong room", diskOf(t, 100, page(1)), room, api.ErrArg)
	}
	for _, room := range []int{8, 9, 4095, 4096} {
		p, e := pager.Open(diskOf(t, 100, page(1)), room)
		must(t, e)
		wantPages(t, p, page(1))
	}
}

func TestErrorsOfOpenInTheirOrder(t *testing.T) {
	d := disk.New(100)
	must(t, d.Write(disk.Data, 0, make([]byte, 5*sector)))
	wantNoOpen(t, "a wrong room, and no whole pages", d, 7, api.ErrArg)
	wantNoOpen(t, "no whole pages", d, 8, api.ErrBad)
	d.Crash(disk.Crash{Keep: []bool{true}})
	wantNoOpen(t, "a wrong room, no power, no whole pages", d, 7, api.ErrArg)
	wantNoOpen(t, "no power, no whole pages", d, 8, api.ErrPower)
	must(t, d.Start())
	wantNoOpen(t, "no whole pages", d, 8, api.ErrBad)
	empty := disk.New(1)
	empty.Crash(disk.Crash{})
	wantNoOpen(t, "no power", empty, 8, api.ErrPower)
}

func TestFileZeroOfAnySectors(t *testing.T) {
	for n := 0; n <= 17; n++ {
		d := disk.New(100)
		if n > 0 {
			must(t, d.Write(disk.Data, 0, mixed(1, n*sector)))
		}
		if n%perPage != 0 {
			wantNoOpen(t, "no whole pages", d, 8, api.ErrBad)
			continue
		}
		p := opened(t, d)
		if p.Pages() != n/perPage || d.Ops() > 1 {
			t.Errorf("%d pages of %d sectors, %d operations", p.Pages(), n, d.Ops())
		}
	}
}

func TestTheMostPages(t *testing.T) {
	d := disk.New(api.MaxSectors)
	must(t, d.Write(disk.Data, 0, mixed(3, most*size)))
	p := opened(t, d)
	if b, e := p.Get(most); p.Pages() != most || e != api.OK || !bytes.Equal(b, mixed(3, most*size)[(most-1)*size:]) {
		t.Errorf("%d pages, the last: %s, or other bytes", p.Pages(), e)
	}
	for _, n := range []int{1, 2, 3, 4, 8, 4 * 4000} {
		more := d.Copy()
		must(t, more.Write(disk.Data, most*perPage, make([]byte, n*sector)))
		wantNoOpen(t, "more than the most pages", more, 8, api.ErrBad)
		// Recovery comes first: what it cuts away does no harm.
		must(t, more.Sync(disk.Data))
		hot(t, more, most, recordsOf(0, most)...)
		p := opened(t, more)
		if p.Pages() != most || p.Replayed() != 1 || more.Sectors(disk.Data) != most*perPage {
			t.Errorf("%d pages, %d replayed", p.Pages(), p.Replayed())
		}
	}
}

func TestAHotJournal(t *testing.T) {
	d := diskOf(t, 200, pages(1, 2, 3, 4)...)
	hot(t, d, 3, recordsOf(10, 1, 3)...)
	ops := d.Ops()
	p := opened(t, d)
	wantPages(t, p, pages(11, 2, 13)...)
	wantDisk(t, d, pages(11, 2, 13)...)
	if p.Replayed() != 2 || p.Commits() != 0 || p.Busy() || d.Ops() != ops+5 {
		t.Errorf("%d replayed, %d commits, busy %v, %d operations", p.Replayed(), p.Commits(), p.Busy(), d.Ops()-ops)
	}
	again := opened(t, d)
	wantPages(t, again, pages(11, 2, 13)...)
	if again.Replayed() != 0 || d.Ops() != ops+5 {
		t.Errorf("%d replayed once more", again.Replayed())
	}
}

func TestAHotJournalCutsFileZero(t *testing.T) {
	for sectors := 0; sectors <= 16; sectors++ {
		for count := 0; count <= 4; count++ {
			d := disk.New(200)
			all := mixed(9, 16*sector)[:sectors*sector]
			if sectors > 0 {
				must(t, d.Write(disk.Data, 0, all))
			}
			hot(t, d, count)
			want := min(sectors, count*perPage)
			if want%perPage != 0 {
				wantNoOpen(t, "no whole pages behind the recovery", d, 8, api.ErrBad)
				continue
			}
			p := opened(t, d)
			if p.Pages() != want/perPage || p.Replayed() != 0 {
				t.Errorf("%d sectors, a journal of %d pages: %d pages, %d replayed", sectors, count, p.Pages(), p.Replayed())
			}
			if !bytes.Equal(fileOf(t, d, disk.Data), all[:want*sector]) || d.Dirty(disk.Data) != 0 || d.Sectors(disk.Journal) != 0 {
				t.Errorf("%d sectors, a journal of %d pages: file 0 has other bytes, or is dirty, or there is a journal", sectors, count)
			}
		}
	}
}

func TestRecordsAtTheEndOfFileZero(t *testing.T) {
	// A commit that makes pages fewer may have cut file 0 ahead of the loss of power.
	d := diskOf(t, 200, page(1))
	hot(t, d, 4, recordsOf(10, 2, 3, 4)...)
	p := opened(t, d)
	wantPages(t, p, pages(1, 12, 13, 14)...)
	wantDisk(t, d, pages(1, 12, 13, 14)...)
	if p.Replayed() != 3 {
		t.Errorf("%d replayed", p.Replayed())
	}
	for torn := 1; torn < perPage; torn++ {
		d := diskOf(t, 200, page(1))
		must(t, d.Write(disk.Data, perPage, mixed(3, torn*sector)))
		hot(t, d, 3, recordsOf(10, 2, 3)...)
		wantPages(t, opened(t, d), pages(1, 12, 13)...)
	}
	none := disk.New(200)
	hot(t, none, 2, recordsOf(10, 1, 2)...)
	wantPages(t, opened(t, none), pages(11, 12)...)
}

func TestRecordsBehindTheEndOfFileZero(t *testing.T) {
	cases := []struct {
		pages int
		l     []int
	}{
		{0, []int{2}},
		{0, []int{1, 3}},
		{1, []int{3}},
		{1, []int{1, 3}},
		{1, []int{1, 2, 4}},
		{2, []int{1, 2, 4, 5}},
		{2, []int{most}},
	}
	for _, c := range cases {
		d := diskOf(t, 200, pages(upTo(c.pages)...)...)
		hot(t, d, most, recordsOf(10, c.l...)...)
		wantNoOpen(t, "a record behind the end", d, 8, api.ErrBad)
	}
	// A part of a page more is not enough for the page behind it.
	d := diskOf(t, 200, page(1))
	must(t, d.Write(disk.Data, perPage, make([]byte, 3*sector)))
	hot(t, d, 3, recordsOf(10, 1, 3)...)
	wantNoOpen(t, "a record behind a part of a page", d, 8, api.ErrBad)
}

func TestAHotJournalThatIsNone(t *testing.T) {
	h := journal.Head{Count: 2, Pages: 3, Nonce: 5}
	l := recordsOf(10, 1, 3)
	good := journal.Bytes(h, l, true)
	turned := bytes.Clone(good)
	turned[len(turned)-1] ^= 1
	first := journal.RecordBytes(l[0], 5)
	second := journal.RecordBytes(l[1], 5)
	wrong := map[string][]byte{
		"a record one bit of which is turned": turned,
		"a sector too few":                    good[:len(good)-sector],
		"a head alone":                        good[:sector],
		"records that fall":                   slices.Concat(good[:sector], second, first),
		"the same record twice":               slices.Concat(good[:sector], first, first),
		"a record of another nonce":           slices.Concat(good[:sector], first, journal.RecordBytes(l[1], 6)),
		"a record of a page beyond Pages":     slices.Concat(good[:sector], first, journal.RecordBytes(journal.Record{Page: 4, Data: page(1)}, 5)),
		"a record of noughts":                 slices.Concat(good[:sector], first, make([]byte, len(second))),
	}
	for what, b := range wrong {
		d := diskOf(t, 200, pages(1, 2, 3)...)
		logged(t, d, b)
		wantNoOpen(t, what, d, 8, api.ErrBad)
	}
	d := diskOf(t, 200, pages(1, 2, 3)...)
	logged(t, d, append(good, turned...))
	wantPages(t, opened(t, d), pages(11, 2, 13)...)
}

func TestAJournalThatIsNotHot(t *testing.T) {
	h := journal.Head{Count: 2, Pages: 2, Nonce: 5}
	cold := journal.Bytes(h, recordsOf(10, 1, 2), false)
	torn := journal.HeadBytes(h, true)
	torn[20] ^= 4
	none := map[string][]byte{
		"records, and a head that is not whole": cold,
		"a head that is not whole":              cold[:sector],
		"noughts":                               make([]byte, 3*sector),
		"a head with one bit turned":            torn,
		"a whole head behind another sector":    append(make([]byte, sector), journal.HeadBytes(h, true)...),
	}
	for what, b := range none {
		d := diskOf(t, 200, pages(1, 2, 3)...)
		logged(t, d, b)
		ops := d.Ops()
		p := opened(t, d)
		wantPages(t, p, pages(1, 2, 3)...)
		wantDisk(t, d, pages(1, 2, 3)...)
		if p.Replayed() != 0 || d.Ops() != ops+1 {
			t.Errorf("%s: %d replayed, %d operations", what, p.Replayed(), d.Ops()-ops)
		}
		odd := disk.New(100)
		must(t, odd.Write(disk.Data, 0, make([]byte, sector)))
		logged(t, odd, b)
		wantNoOpen(t, what, odd, 8, api.ErrBad)
	}
}

func TestOpenWithoutAJournalDoesNothing(t *testing.T) {
	d := diskOf(t, 100, pages(1, 2)...)
	was := lookAt(t, d)
	must(t, d.Arm(1, disk.Crash{}))
	wantPages(t, opened(t, d), pages(1, 2)...)
	wantAlike(t, "the disk", d, was)
}

func TestARecoveryWithoutRoom(t *testing.T) {
	// One page and a journal of three records fill the disk; two pages more do not go in.
	room := perPage + journal.Sectors(3)
	for more := 0; more <= 2*perPage+1; more++ {
		d := diskOf(t, room+more, page(1))
		hot(t, d, 3, recordsOf(10, 1, 2, 3)...)
		if more < 2*perPage {
			wantNoOpen(t, "no room", d, 8, api.ErrFull)
			continue
		}
		wantPages(t, opened(t, d), pages(11, 12, 13)...)
		wantDisk(t, d, pages(11, 12, 13)...)
	}
	full := diskOf(t, room, page(1))
	hot(t, full, 4, recordsOf(10, 1, 3, 4)...)
	wantNoOpen(t, "no room, and a record behind the end", full, 8, api.ErrBad)
}

func TestTheRecoveryStepByStep(t *testing.T) {
	build := func() *disk.Disk {
		d := diskOf(t, 300, pages(1, 2, 3, 4, 5)...)
		hot(t, d, 4, recordsOf(10, 1, 3, 4)...)
		return d
	}
	ops := []operation{
		writing(disk.Data, 0, page(11)),
		writing(disk.Data, 8, page(13)),
		writing(disk.Data, 12, page(14)),
		cutting(disk.Data, 16),
		syncing(disk.Data),
		cutting(disk.Journal, 0),
	}
	for n := 1; n <= len(ops); n++ {
		for _, c := range crashes() {
			d, want := build(), build()
			must(t, d.Arm(n, c))
			must(t, want.Arm(n, c))
			if p, e := pager.Open(d, 8); p != nil || e != api.ErrPower {
				t.Errorf("Open with a loss of power at %d: %v, %s", n, p != nil, e)
			}
			wantErr(t, "the steps", done(want, ops), api.ErrPower)
			wantAlike(t, "behind the loss of power", d, lookAt(t, want))
		}
	}
	d, want := build(), build()
	must(t, d.Arm(len(ops)+1, disk.Crash{}))
	must(t, done(want, ops))
	wantPages(t, opened(t, d), pages(11, 2, 13, 14)...)
	wantAlike(t, "behind the recovery", d, lookAt(t, want))
}
