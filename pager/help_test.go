package pager_test

import (
	"bytes"
	"slices"
	"testing"

	"hachure/api"
	"hachure/disk"
	"hachure/journal"
	"hachure/pager"
)

// Sizes by the chapter's words, as numbers of their own.
const (
	size    = 512
	sector  = 128
	perPage = 4
	most    = 4000
)

// mixed tells count bytes that are the same in each run.
func mixed(seed uint64, count int) []byte {
	out := make([]byte, count)
	seed = seed*2 + 88172645463325253
	for i := range out {
		seed ^= seed << 13
		seed ^= seed >> 7
		seed ^= seed << 17
		out[i] = byte(seed >> 32)
	}
	return out
}

// page is a page's bytes, all sectors of which differ.
func page(seed int) []byte {
	return mixed(uint64(seed), size)
}

// pages are some, each of its seed.
func pages(seeds ...int) [][]byte {
	var out [][]byte
	for _, s := range seeds {
		out = append(out, page(s))
	}
	return out
}

// upTo is the numbers from 1 to n.
func upTo(n int) []int {
	out := make([]int, n)
	for i := range out {
		out[i] = i + 1
	}
	return out
}

func wantErr(t *testing.T, what string, got, want api.Errno) {
	t.Helper()
	if got != want {
		t.Errorf("%s: %s, want %s", what, got, want)
	}
}

func must(t *testing.T, e api.Errno) {
	t.Helper()
	if e != api.OK {
		t.Fatalf("an error: %s", e)
	}
}

// diskOf is a disk of that room, file 0 of which surely has these pages.
func diskOf(t *testing.T, room int, all ...[]byte) *disk.Disk {
	t.Helper()
	d := disk.New(room)
	for i, b := range all {
		must(t, d.Write(disk.Data, i*perPage, b))
	}
	must(t, d.Sync(disk.Data))
	return d
}

func opened(t *testing.T, d *disk.Disk) *pager.Pager {
	t.Helper()
	p, e := pager.Open(d, 8)
	must(t, e)
	return p
}

// begun is a pager over d in a transaction.
func begun(t *testing.T, d *disk.Disk) *pager.Pager {
	t.Helper()
	p := opened(t, d)
	must(t, p.Begin())
	return p
}

// grown makes a page more with these bytes.
func grown(t *testing.T, p *pager.Pager, b []byte) {
	t.Helper()
	n, e := p.Grow()
	must(t, e)
	must(t, p.Put(n, b))
}

func marked(t *testing.T, p *pager.Pager) int {
	t.Helper()
	m, e := p.Mark()
	must(t, e)
	return m
}

// wantMark asks for a mark, which must have that number.
func wantMark(t *testing.T, p *pager.Pager, want int) {
	t.Helper()
	if got := marked(t, p); got != want {
		t.Fatalf("mark %d, want %d", got, want)
	}
}

// wantNone asks that none of these be a mark any more, or yet; what is refused changes nothing.
func wantNone(t *testing.T, p *pager.Pager, marks ...int) {
	t.Helper()
	pages, changed := p.Pages(), p.Changed()
	for _, m := range marks {
		if e := p.Undo(m); e != api.ErrNone {
			t.Fatalf("Undo(%d): %s, want %s", m, e, api.ErrNone)
		}
	}
	if p.Pages() != pages || !slices.Equal(p.Changed(), changed) {
		t.Fatalf("%d pages, changed %v; want %d, %v", p.Pages(), p.Changed(), pages, changed)
	}
}

// wantPages holds all that Get tells against what is wanted.
func wantPages(t *testing.T, p *pager.Pager, want ...[]byte) {
	t.Helper()
	if p.Pages() != len(want) {
		t.Fatalf("%d pages, want %d", p.Pages(), len(want))
	}
	for i, w := range want {
		b, e := p.Get(i + 1)
		if e != api.OK || !bytes.Equal(b, w) {
			t.Errorf("Get(%d): %s, %d bytes, or other ones", i+1, e, len(b))
		}
	}
	if _, e := p.Get(len(want) + 1); e != api.ErrRange {
		t.Errorf("there is a page behind the last: %s", e)
	}
}

func wantChanged(t *testing.T, p *pager.Pager, want ...int) {
	t.Helper()
	if got := p.Changed(); !slices.Equal(got, want) {
		t.Errorf("changed are %v, want %v", got, want)
	}
}

// fileOf is all bytes of a file of a disk that has power.
func fileOf(t *testing.T, d *disk.Disk, file int) []byte {
	t.Helper()
	b, e := d.Read(file, 0, d.Sectors(file))
	must(t, e)
	return b
}

// wantDisk holds file 0 against these pages, all of them sure, and asks that there be no journal.
func wantDisk(t *testing.T, d *disk.Disk, want ...[]byte) {
	t.Helper()
	if !bytes.Equal(fileOf(t, d, disk.Data), slices.Concat(want...)) {
		t.Errorf("file 0 has %d sectors, or other bytes than those of %d pages", d.Sectors(disk.Data), len(want))
	}
	if d.Dirty(disk.Data) != 0 || d.Sectors(disk.Journal) != 0 {
		t.Errorf("%d dirty sectors, a journal of %d", d.Dirty(disk.Data), d.Sectors(disk.Journal))
	}
}

// look is what two disks are alike in.
type look struct {
	data, log     string
	dirty, logged int
	ops           int
	on            bool
}

// lookAt is what a disk is like; its bytes are told with power and without.
func lookAt(t *testing.T, d *disk.Disk) look {
	t.Helper()
	c := d.Copy()
	must(t, c.Start())
	return look{
		data: string(fileOf(t, c, disk.Data)), log: string(fileOf(t, c, disk.Journal)),
		dirty: d.Dirty(disk.Data), logged: d.Dirty(disk.Journal),
		ops: d.Ops(), on: d.On(),
	}
}

func wantAlike(t *testing.T, what string, d *disk.Disk, want look) {
	t.Helper()
	got := lookAt(t, d)
	if got != want {
		t.Errorf("%s: %d and %d bytes, dirty %d and %d, %d operations, %v; want %d and %d, %d and %d, %d, %v; or other bytes", what,
			len(got.data), len(got.log), got.dirty, got.logged, got.ops, got.on,
			len(want.data), len(want.log), want.dirty, want.logged, want.ops, want.on)
	}
}

// recordsOf are records of pages, each of its seed.
func recordsOf(seed int, numbers ...int) []journal.Record {
	var out []journal.Record
	for _, n := range numbers {
		out = append(out, journal.Record{Page: n, Data: page(seed + n)})
	}
	return out
}

// logged lays these bytes into file 1, surely.
func logged(t *testing.T, d *disk.Disk, b []byte) {
	t.Helper()
	if len(b) > 0 {
		must(t, d.Write(disk.Journal, 0, b))
		must(t, d.Sync(disk.Journal))
	}
}

// hot lays a journal of these records, with a whole head, into file 1.
func hot(t *testing.T, d *disk.Disk, count int, l ...journal.Record) {
	t.Helper()
	b := journal.Bytes(journal.Head{Count: len(l), Pages: count, Nonce: 77}, l, true)
	if b == nil {
		t.Fatal("no journal of these records")
	}
	logged(t, d, b)
}

// crashes are losses of power: all, none and some of the sectors stay, one torn or none.
func crashes() []disk.Crash {
	return []disk.Crash{
		{},
		{Torn: 1},
		{Torn: 64},
		{Torn: sector - 1},
		{Torn: sector},
		{Keep: []bool{true}},
		{Keep: []bool{true, false}},
		{Keep: []bool{false, true}, Torn: 5},
		{Keep: []bool{true, true, false}, Torn: 127},
		{Keep: []bool{false, false, false, true}},
		{Keep: []bool{false, true, true, true, true, true, true}},
		{Keep: []bool{true, false, false, true, false}, Torn: 30},
		{Keep: []bool{false, false, false, false, false, false, false, false, false, false, true}, Torn: 100},
	}
}
