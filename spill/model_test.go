package spill_test

import (
	"bytes"
	"encoding/binary"
	"slices"
	"testing"

	"hachure/api"
	"hachure/disk"
	"hachure/free"
	"hachure/pager"
	"hachure/spill"
)

// dice tells numbers that are the same in each run.
type dice struct{ seed uint64 }

func (s *dice) under(n int) int {
	s.seed ^= s.seed << 13
	s.seed ^= s.seed >> 7
	s.seed ^= s.seed << 17
	return int(s.seed>>33) % n
}

// kept is a value that was written, and where.
type kept struct {
	at    int
	pages []int
	bytes []byte
}

// bench is a heap that spill changes, and a twin whose pages are taken, laid and given one by one.
type bench struct {
	t          *testing.T
	s          *dice
	d          *disk.Disk
	p, twinP   *pager.Pager
	h, twin    *free.Heap
	live, sure []kept
}

func newBench(t *testing.T, seed uint64) *bench {
	t.Helper()
	x := &bench{t: t, s: &dice{seed*2654435761 + 1}, d: disk.New(roomy)}
	for range 10 {
		x.s.under(2)
	}
	pages := 1
	if x.s.under(2) == 0 {
		pages = most - x.s.under(100)
	}
	x.p, x.h = madeOn(t, x.d, pages)
	x.twinP, x.twin = made(t, pages)
	return x
}

// size is a value's, mostly at the side of a page's end.
func (x *bench) size() int {
	switch x.s.under(4) {
	case 0:
		return 1 + x.s.under(payload)
	case 1:
		return 1 + x.s.under(room)
	}
	return max(1, min(payload, x.s.under(12)*room+x.s.under(3)-1))
}

func (x *bench) write() {
	x.t.Helper()
	b := value(x.s.under(1<<30), x.size())
	at, e := spill.Write(x.h, b)
	count := (len(b) + room - 1) / room
	all, f := x.twin.All()
	must(x.t, f)
	if count > len(all)+most-x.twinP.Pages() {
		if at != 0 || e != api.ErrFull {
			x.t.Fatalf("Write without room: %d, %s", at, e)
		}
		return
	}
	must(x.t, e)
	pages := make([]int, count)
	for i := range pages {
		pages[i], f = x.twin.Take()
		must(x.t, f)
	}
	chained(x.t, x.twinP, b, pages...)
	if at != pages[0] {
		x.t.Fatalf("Write: %d, want %d", at, pages[0])
	}
	x.live = append(x.live, kept{at, pages, b})
}

func (x *bench) free() {
	x.t.Helper()
	if len(x.live) == 0 {
		return
	}
	i := x.s.under(len(x.live))
	k := x.live[i]
	x.live = slices.Delete(slices.Clone(x.live), i, i+1)
	must(x.t, spill.Free(x.h, k.at, len(k.bytes)))
	given(x.t, x.twin, k.pages...)
}

// read asks for one of the values, rightly and with another length.
func (x *bench) read() {
	x.t.Helper()
	if len(x.live) == 0 {
		return
	}
	k := x.live[x.s.under(len(x.live))]
	wantRead(x.t, x.h, k.at, k.bytes)
	wantPages(x.t, x.h, k.at, len(k.bytes), k.pages...)
	n := x.size()
	l, e := spill.Pages(x.h, k.at, n)
	if good := (n+room-1)/room == len(k.pages); good != (e == api.OK) || good != slices.Equal(l, k.pages) {
		x.t.Fatalf("Pages of %d bytes, where %d were written: %v, %s", n, len(k.bytes), l, e)
	}
}

// end commits what was done, or rolls it back.
func (x *bench) end() {
	x.t.Helper()
	if x.s.under(3) > 0 {
		must(x.t, x.p.Commit())
		must(x.t, x.twinP.Commit())
		x.sure = x.live
	} else if len(x.sure) > 0 {
		must(x.t, x.p.Rollback())
		must(x.t, x.twinP.Rollback())
		x.live = x.sure
	} else {
		return
	}
	if x.s.under(3) == 0 {
		x.p = opened(x.t, x.d)
		x.h = mustOpen(x.t, x.p)
	}
	must(x.t, x.p.Begin())
	must(x.t, x.twinP.Begin())
}

// held holds all pages against the twin's, and all values against what was written.
func (x *bench) held() {
	x.t.Helper()
	if a, b := lookAt(x.t, x.p), lookAt(x.t, x.twinP); a != b {
		x.t.Fatal("the pages are not the twin's")
	}
	for _, k := range x.live {
		wantRead(x.t, x.h, k.at, k.bytes)
	}
}

func TestAgainstATwin(t *testing.T) {
	for seed := range uint64(40) {
		x := newBench(t, seed)
		for i := range 60 {
			switch x.s.under(8) {
			case 0, 1, 2:
				x.write()
			case 3, 4:
				x.free()
			case 5, 6:
				x.read()
			case 7:
				x.end()
			}
			if t.Failed() {
				t.Fatalf("seed %d, step %d", seed, i)
			}
			if i%15 == 14 {
				x.held()
			}
		}
	}
}

// walked is the pages of a chain by the chapter's words, in pages whose bytes are all.
func walked(all [][]byte, page, n int) ([]int, bool) {
	var out []int
	for len(out) < (n+room-1)/room {
		if page < 2 || page > len(all) {
			return nil, false
		}
		out = append(out, page)
		page = int(binary.BigEndian.Uint32(all[page-1]))
	}
	return out, page == 0
}

// bytesOf is the value in these pages; not ok: its last page ends otherwise than in noughts.
func bytesOf(all [][]byte, pages []int, n int) ([]byte, bool) {
	var out []byte
	for _, page := range pages {
		out = append(out, all[page-1][4:]...)
	}
	return out[:n], len(bytes.Trim(out[n:], "\x00")) == 0
}

// holdReaders holds Pages and Read against the chapter's words.
func holdReaders(t *testing.T, h *free.Heap, all [][]byte, page, n int) {
	t.Helper()
	want, ok := walked(all, page, n)
	l, e := spill.Pages(h, page, n)
	if ok != (e == api.OK) || !ok && (e != api.ErrBad || len(l) > 0) || ok && !slices.Equal(l, want) {
		t.Fatalf("Pages(%d, %d): %v, %s, want %v, %v", page, n, l, e, want, ok)
	}
	var value []byte
	if ok {
		value, ok = bytesOf(all, want, n)
	}
	b, e := spill.Read(h, page, n)
	if ok != (e == api.OK) || !ok && (e != api.ErrBad || len(b) > 0) || ok && !bytes.Equal(b, value) {
		t.Fatalf("Read(%d, %d): %d bytes, %s, want %v", page, n, len(b), e, ok)
	}
}

// FuzzPages: whatever pages have, all calls end, and what answers an error has changed nothing.
func FuzzPages(f *testing.F) {
	f.Add(byte(2), uint16(600), []byte{3, 0, 0, 0, 0}, byte(0), byte(0), byte(0))
	f.Add(byte(2), uint16(1100), []byte{3, 4, 0, 9}, byte(5), byte(6), byte(7))
	f.Add(byte(2), uint16(5000), []byte{3, 4, 5, 6, 2}, byte(3), byte(3), byte(3))
	f.Add(byte(4), uint16(1016), []byte{0, 0, 5}, byte(4), byte(5), byte(4))
	f.Add(byte(0), uint16(1), []byte{}, byte(2), byte(2), byte(2))
	f.Add(byte(12), uint16(20000), bytes.Repeat([]byte{13}, 12), byte(9), byte(0), byte(1))
	f.Fuzz(func(t *testing.T, page byte, n uint16, nexts []byte, a, b, c byte) {
		p, h := made(t, 12)
		all := [][]byte{nil}
		for i := 2; i <= 12; i++ {
			next := 0
			if i-2 < len(nexts) {
				next = int(nexts[i-2])
			}
			must(t, p.Put(i, linkPage(next, value(i, int(n)%room))))
		}
		// Some are free, though they may be in the chain.
		for _, g := range []byte{a, b, c} {
			if g > 1 && g <= 12 {
				must(t, h.Give(int(g)))
			}
		}
		for i := 2; i <= 12; i++ {
			got, e := p.Get(i)
			must(t, e)
			all = append(all, got)
		}
		all[0] = make([]byte, size)
		if n >= 1 && n <= payload {
			holdReaders(t, h, all, int(page), int(n))
		}
		ahead := lookAt(t, p)
		for _, f := range faces() {
			if e, zero := f.call(h, int(page), int(n)); e != api.OK {
				if !zero || lookAt(t, p) != ahead {
					t.Fatalf("%s: %s, zero: %v, or something changed", f.name, e, zero)
				}
			}
			ahead = lookAt(t, p)
		}
	})
}
