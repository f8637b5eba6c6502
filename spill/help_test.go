package spill_test

import (
	"bytes"
	"encoding/binary"
	"slices"
	"testing"

	"hachure/api"
	"hachure/disk"
	"hachure/free"
	"hachure/pager"
	"hachure/spill"
)

// Numbers by the chapters' words.
const (
	size    = 512
	room    = 508
	payload = 20000
	most    = 4000
	leaves  = 126
	roomy   = 32768
)

func must(t *testing.T, e api.Errno) {
	t.Helper()
	if e != api.OK {
		t.Fatalf("an error: %s", e)
	}
}

func wantErr(t *testing.T, what string, got, want api.Errno) {
	t.Helper()
	if got != want {
		t.Errorf("%s: %s, want %s", what, got, want)
	}
}

func opened(t *testing.T, d *disk.Disk) *pager.Pager {
	t.Helper()
	p, e := pager.Open(d, 8)
	must(t, e)
	return p
}

// made is a heap in a transaction, that has so many pages, the root among them.
func made(t *testing.T, pages int) (*pager.Pager, *free.Heap) {
	t.Helper()
	return madeOn(t, disk.New(roomy), pages)
}

func madeOn(t *testing.T, d *disk.Disk, pages int) (*pager.Pager, *free.Heap) {
	t.Helper()
	p := opened(t, d)
	must(t, p.Begin())
	h, e := free.Make(p)
	must(t, e)
	for p.Pages() < pages {
		_, e := p.Grow()
		must(t, e)
	}
	return p, h
}

func mustOpen(t *testing.T, p *pager.Pager) *free.Heap {
	t.Helper()
	h, e := free.Open(p)
	must(t, e)
	return h
}

// given makes these pages free, in their order.
func given(t *testing.T, h *free.Heap, pages ...int) {
	t.Helper()
	for _, n := range pages {
		must(t, h.Give(n))
	}
}

// span is the numbers from low to high.
func span(low, high int) []int {
	var out []int
	for n := low; n <= high; n++ {
		out = append(out, n)
	}
	return out
}

// falling is the numbers from high down to low.
func falling(high, low int) []int {
	out := span(low, high)
	slices.Reverse(out)
	return out
}

// value is n bytes, none of them 0, that are the same in each run.
func value(seed, n int) []byte {
	out := make([]byte, n)
	s := uint64(seed)*2654435761 + 88172645463325253
	for i := range out {
		s ^= s << 13
		s ^= s >> 7
		s ^= s << 17
		out[i] = byte(s>>32) | 1
	}
	return out
}

// linkPage is the bytes of a chain's page.
func linkPage(next int, b []byte) []byte {
	out := binary.BigEndian.AppendUint32(nil, uint32(next))
	out = append(out, b...)
	return append(out, make([]byte, size-len(out))...)
}

// chained puts b into these pages, by the chapter's words.
func chained(t *testing.T, p *pager.Pager, b []byte, pages ...int) {
	t.Helper()
	for i, n := range pages {
		next := 0
		if i+1 < len(pages) {
			next = pages[i+1]
		}
		must(t, p.Put(n, linkPage(next, b[i*room:min(len(b), (i+1)*room)])))
	}
}

// written writes b: its first page.
func written(t *testing.T, h *free.Heap, b []byte) int {
	t.Helper()
	at, e := spill.Write(h, b)
	must(t, e)
	return at
}

// wantPages asks that the chain of n bytes have just these pages, in that order.
func wantPages(t *testing.T, h *free.Heap, at, n int, want ...int) {
	t.Helper()
	if l, e := spill.Pages(h, at, n); e != api.OK || !slices.Equal(l, want) {
		t.Errorf("Pages(%d, %d): %v, %s, want %v", at, n, l, e, want)
	}
}

// wantRead asks that the chain have these bytes.
func wantRead(t *testing.T, h *free.Heap, at int, want []byte) {
	t.Helper()
	if b, e := spill.Read(h, at, len(want)); e != api.OK || !bytes.Equal(b, want) {
		t.Errorf("Read(%d, %d): %d bytes, or other ones, %s", at, len(want), len(b), e)
	}
}

// wantLaid holds the pages of the chain against the form that the chapter gives them.
func wantLaid(t *testing.T, p *pager.Pager, b []byte, pages ...int) {
	t.Helper()
	for i, n := range pages {
		next := 0
		if i+1 < len(pages) {
			next = pages[i+1]
		}
		wantPage(t, p, n, linkPage(next, b[i*room:min(len(b), (i+1)*room)]))
	}
}

func wantPage(t *testing.T, p *pager.Pager, n int, want []byte) {
	t.Helper()
	if b, e := p.Get(n); e != api.OK || !bytes.Equal(b, want) {
		t.Errorf("page %d: %s, or other bytes:\n%v\nwant\n%v", n, e, b, want)
	}
}

// wantFree asks that just these pages be free, in that order.
func wantFree(t *testing.T, h *free.Heap, pages ...int) {
	t.Helper()
	all, e := h.All()
	if e != api.OK || !slices.Equal(all, pages) {
		t.Errorf("All: %v, %s, want %v", all, e, pages)
	}
	if n, e := h.Count(); e != api.OK || n != len(pages) {
		t.Errorf("Count: %d, %s, want %d", n, e, len(pages))
	}
}

// look is what a pager tells of its pages.
type look struct {
	pages   string
	changed string
	busy    bool
}

func lookAt(t *testing.T, p *pager.Pager) look {
	t.Helper()
	var all, changed []byte
	for n := range p.Pages() {
		b, e := p.Get(n + 1)
		must(t, e)
		all = append(all, b...)
	}
	for _, n := range p.Changed() {
		changed = binary.BigEndian.AppendUint32(changed, uint32(n))
	}
	return look{string(all), string(changed), p.Busy()}
}

// wantUnchanged does something that is refused.
func wantUnchanged(t *testing.T, p *pager.Pager, refused func()) {
	t.Helper()
	ahead := lookAt(t, p)
	refused()
	if lookAt(t, p) != ahead {
		t.Error("what was refused changed something")
	}
}

// face is a call that answers an error.
type face struct {
	name string
	// writes: it is for a transaction alone.
	writes bool
	call   func(h *free.Heap, page, n int) (e api.Errno, zero bool)
}

// readers are those that go over a chain and change nothing.
func readers() []face {
	return []face{
		{"Pages", false, func(h *free.Heap, page, n int) (api.Errno, bool) {
			l, e := spill.Pages(h, page, n)
			return e, len(l) == 0
		}},
		{"Read", false, func(h *free.Heap, page, n int) (api.Errno, bool) {
			b, e := spill.Read(h, page, n)
			return e, len(b) == 0
		}},
	}
}

// goers are those that go over a chain.
func goers() []face {
	return append(readers(), face{"Free", true, func(h *free.Heap, page, n int) (api.Errno, bool) {
		return spill.Free(h, page, n), true
	}})
}

// faces are all that answer an error; Write is asked for n bytes.
func faces() []face {
	return append(goers(), face{"Write", true, func(h *free.Heap, _, n int) (api.Errno, bool) {
		at, e := spill.Write(h, make([]byte, max(n, 0)))
		return e, at == 0
	}})
}

// wantRefused asks a face for that error, beside which all is zero.
func wantRefused(t *testing.T, what string, f face, h *free.Heap, page, n int, want api.Errno) {
	t.Helper()
	e, zero := f.call(h, page, n)
	if e != want || !zero {
		t.Errorf("%s: %s(%d, %d): %s, zero: %v; want %s", what, f.name, page, n, e, zero, want)
	}
}
