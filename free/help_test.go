package free_test

import (
	"bytes"
	"encoding/binary"
	"slices"
	"testing"

	"hachure/api"
	"hachure/disk"
	"hachure/free"
	"hachure/pager"
)

// Numbers by the chapter's words.
const (
	size   = 512
	most   = 4000
	words  = 60
	leaves = 126
	roomy  = 32768
)

func must(t *testing.T, e api.Errno) {
	t.Helper()
	if e != api.OK {
		t.Fatalf("an error: %s", e)
	}
}

func wantErr(t *testing.T, what string, got, want api.Errno) {
	t.Helper()
	if got != want {
		t.Errorf("%s: %s, want %s", what, got, want)
	}
}

func opened(t *testing.T, d *disk.Disk) *pager.Pager {
	t.Helper()
	p, e := pager.Open(d, 8)
	must(t, e)
	return p
}

// begun is a pager without pages, in a transaction.
func begun(t *testing.T) *pager.Pager {
	t.Helper()
	p := opened(t, disk.New(roomy))
	must(t, p.Begin())
	return p
}

// made is a heap in a transaction, that has so many pages, the root among them.
func made(t *testing.T, pages int) (*pager.Pager, *free.Heap) {
	t.Helper()
	p := begun(t)
	h, e := free.Make(p)
	must(t, e)
	for p.Pages() < pages {
		_, e := p.Grow()
		must(t, e)
	}
	return p, h
}

// given makes these pages free, in their order.
func given(t *testing.T, h *free.Heap, pages ...int) {
	t.Helper()
	for _, n := range pages {
		if e := h.Give(n); e != api.OK {
			t.Fatalf("Give(%d): %s", n, e)
		}
	}
}

// wantTaken takes as many pages, which must be these.
func wantTaken(t *testing.T, h *free.Heap, pages ...int) {
	t.Helper()
	for _, want := range pages {
		n, e := h.Take()
		if n != want || e != api.OK {
			t.Fatalf("Take: %d, %s, want %d", n, e, want)
		}
		if b, e := h.Pager().Get(n); e != api.OK || !bytes.Equal(b, make([]byte, size)) {
			t.Fatalf("page %d that was taken: %s, or not of noughts", n, e)
		}
	}
}

// wantFree asks that just these pages be free, in that order.
func wantFree(t *testing.T, h *free.Heap, pages ...int) {
	t.Helper()
	all, e := h.All()
	if e != api.OK || !slices.Equal(all, pages) {
		t.Fatalf("All: %v, %s, want %v", all, e, pages)
	}
	n, e := h.Count()
	if e != api.OK || n != len(pages) {
		t.Fatalf("Count: %d, %s, want %d", n, e, len(pages))
	}
}

func wantWord(t *testing.T, h *free.Heap, i, want int) {
	t.Helper()
	if n, e := h.Word(i); n != want || e != api.OK {
		t.Errorf("Word(%d): %d, %s, want %d", i, n, e, want)
	}
}

// span is the numbers from low to high.
func span(low, high int) []int {
	var out []int
	for n := low; n <= high; n++ {
		out = append(out, n)
	}
	return out
}

// falling is the numbers from high down to low.
func falling(high, low int) []int {
	out := span(low, high)
	slices.Reverse(out)
	return out
}

// rootOf is a root's bytes; the words behind those that are named are 0.
func rootOf(first, count int, named ...int) []byte {
	b := []byte("hachure1")
	b = binary.BigEndian.AppendUint32(b, uint32(first))
	b = binary.BigEndian.AppendUint32(b, uint32(count))
	for _, n := range named {
		b = binary.BigEndian.AppendUint64(b, uint64(n))
	}
	return padded(b)
}

// trunkOf is the bytes of a trunk with these leaves.
func trunkOf(next int, leaves ...int) []byte {
	return falseTrunk(next, len(leaves), leaves...)
}

// falseTrunk is the bytes of a trunk that says that it has so many leaves.
func falseTrunk(next, count int, leaves ...int) []byte {
	b := binary.BigEndian.AppendUint32(nil, uint32(next))
	b = binary.BigEndian.AppendUint32(b, uint32(count))
	for _, n := range leaves {
		b = binary.BigEndian.AppendUint32(b, uint32(n))
	}
	return padded(b)
}

func padded(b []byte) []byte {
	return append(b, make([]byte, size-len(b))...)
}

// mark is bytes that no page has by itself.
func mark(n int) []byte {
	return bytes.Repeat([]byte{0xA5, byte(n), byte(n >> 8), 0x5A}, size/4)
}

func wantPage(t *testing.T, p *pager.Pager, n int, want []byte) {
	t.Helper()
	if b, e := p.Get(n); e != api.OK || !bytes.Equal(b, want) {
		t.Errorf("page %d: %s, or other bytes:\n%v\nwant\n%v", n, e, b, want)
	}
}

// look is what a pager tells of its pages.
type look struct {
	pages   string
	changed string
	busy    bool
}

func lookAt(t *testing.T, p *pager.Pager) look {
	t.Helper()
	var all, changed []byte
	for n := range p.Pages() {
		b, e := p.Get(n + 1)
		must(t, e)
		all = append(all, b...)
	}
	for _, n := range p.Changed() {
		changed = binary.BigEndian.AppendUint32(changed, uint32(n))
	}
	return look{string(all), string(changed), p.Busy()}
}

// face is a call of a heap: its error, and whether all else that it answers is zero.
type face struct {
	name string
	// writes: it is for a transaction alone.
	writes bool
	// lists: it goes over the list.
	lists bool
	call  func(h *free.Heap) (api.Errno, bool)
}

// faces are all calls that answer an error, with arguments that may be as long as there is a page.
func faces() []face {
	return []face{
		{"Take", true, true, func(h *free.Heap) (api.Errno, bool) { n, e := h.Take(); return e, n == 0 }},
		{"Give", true, true, func(h *free.Heap) (api.Errno, bool) { return h.Give(2), true }},
		{"All", false, true, func(h *free.Heap) (api.Errno, bool) { l, e := h.All(); return e, len(l) == 0 }},
		{"Count", false, false, func(h *free.Heap) (api.Errno, bool) { n, e := h.Count(); return e, n == 0 }},
		{"Word", false, false, func(h *free.Heap) (api.Errno, bool) { n, e := h.Word(0); return e, n == 0 }},
		{"Set", true, false, func(h *free.Heap) (api.Errno, bool) { return h.Set(0, 7), true }},
		{"Trim", true, true, func(h *free.Heap) (api.Errno, bool) { return h.Trim(1), true }},
	}
}

// wrongs are the same calls with arguments that may not be, where they take any.
func wrongs() []face {
	return []face{
		{"Give(1)", true, true, func(h *free.Heap) (api.Errno, bool) { return h.Give(1), true }},
		{"Give(-1)", true, true, func(h *free.Heap) (api.Errno, bool) { return h.Give(-1), true }},
		{"Word(60)", false, false, func(h *free.Heap) (api.Errno, bool) { n, e := h.Word(words); return e, n == 0 }},
		{"Set(-1)", true, false, func(h *free.Heap) (api.Errno, bool) { return h.Set(-1, 7), true }},
		{"Trim(0)", true, true, func(h *free.Heap) (api.Errno, bool) { return h.Trim(0), true }},
		{"Trim(5000)", true, true, func(h *free.Heap) (api.Errno, bool) { return h.Trim(5000), true }},
	}
}

// wantRefused asks a face for that error, beside which all is zero.
func wantRefused(t *testing.T, what string, f face, h *free.Heap, want api.Errno) {
	t.Helper()
	e, zero := f.call(h)
	if e != want || !zero {
		t.Errorf("%s: %s: %s, zero: %v; want %s", what, f.name, e, zero, want)
	}
}
