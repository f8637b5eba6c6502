package spill_test

import (
	"encoding/binary"
	"math"
	"slices"
	"testing"

	"hachure/api"
	"hachure/disk"
	"hachure/free"
	"hachure/pager"
	"hachure/spill"
)

// wrongSizes are lengths that no value has.
func wrongSizes() []int {
	return []int{0, -1, -508, math.MinInt, payload + 1, payload + 2, 2 * payload, math.MaxInt}
}

// noPages are numbers of pages that no chain has, of ten.
func noPages() []int {
	return []int{0, 1, -1, -2, math.MinInt, 11, 12, most, most + 1, 1<<32 + 2, math.MaxInt}
}

func TestAHeapThatNoCallMade(t *testing.T) {
	for _, h := range []*free.Heap{nil, {}} {
		for _, f := range faces() {
			for _, n := range []int{1, 600, 0, -1, payload + 1} {
				for _, page := range []int{2, 0, 1, -1} {
					wantRefused(t, "no heap", f, h, page, n, api.ErrMade)
				}
			}
		}
	}
}

func TestSizesThatMayNotBe(t *testing.T) {
	p, h := made(t, 10)
	chained(t, p, value(1, room), 2)
	wantUnchanged(t, p, func() {
		for _, n := range wrongSizes() {
			for _, page := range append(noPages(), 2) {
				for _, f := range goers() {
					wantRefused(t, "a size", f, h, page, n, api.ErrArg)
				}
			}
		}
		for _, b := range [][]byte{nil, {}, make([]byte, payload+1), make([]byte, 3*payload)} {
			if at, e := spill.Write(h, b); at != 0 || e != api.ErrArg {
				t.Errorf("Write of %d bytes: %d, %s", len(b), at, e)
			}
		}
	})
}

func TestPagesThatMayNotBe(t *testing.T) {
	p, h := made(t, 10)
	wantUnchanged(t, p, func() {
		for _, page := range noPages() {
			for _, n := range []int{1, 508, 509, payload} {
				for _, f := range goers() {
					wantRefused(t, "a page", f, h, page, n, api.ErrBad)
				}
			}
		}
	})
	// The least and the greatest that there are.
	wantPages(t, h, 2, 5, 2)
	wantPages(t, h, 10, 5, 10)
}

// TestARootThatLooksLikeAChain is none, for its number.
func TestARootThatLooksLikeAChain(t *testing.T) {
	p, h := made(t, 3)
	must(t, p.Put(2, linkPage(1, value(1, room))))
	must(t, p.Put(1, make([]byte, size)))
	for _, f := range readers() {
		wantRefused(t, "the root", f, h, 1, 5, api.ErrBad)
		wantRefused(t, "behind a page", f, h, 2, 600, api.ErrBad)
	}
}

func TestChainsOfOtherLengths(t *testing.T) {
	_, h := made(t, 1)
	for _, n := range sizes() {
		at := written(t, h, value(n, n))
		for _, other := range append(sizes(), n+room, n+2*room, n-room, n-2*room) {
			if other < 1 || other > payload || spill.Count(other) == spill.Count(n) {
				continue
			}
			for _, f := range goers() {
				wantRefused(t, "a length", f, h, at, other, api.ErrBad)
			}
		}
		wantRead(t, h, at, value(n, n))
	}
}

// brokenChain is a chain that begins at page 2 of ten, and may not be.
type brokenChain struct {
	name  string
	n     int
	nexts map[int]int
}

func brokenChains() []brokenChain {
	return []brokenChain{
		{"one page too few", 600, nil},
		{"one page too many", 400, map[int]int{2: 3}},
		{"two pages too few", 1500, map[int]int{2: 3}},
		{"two pages too many", 600, map[int]int{2: 3, 3: 4, 4: 5}},
		{"it leads to itself", 400, map[int]int{2: 2}},
		{"it leads to itself, and may be longer", 600, map[int]int{2: 2}},
		{"it leads to itself, as long as may be", payload, map[int]int{2: 2}},
		{"two lead to one another", 1000, map[int]int{2: 3, 3: 2}},
		{"two lead to one another, as long as may be", payload, map[int]int{2: 3, 3: 2}},
		{"a later one leads to itself", 1100, map[int]int{2: 3, 3: 3}},
		{"a later one leads back", 2000, map[int]int{2: 3, 3: 4, 4: 5, 5: 3}},
		{"a later one leads back to the first", 2000, map[int]int{2: 3, 3: 4, 4: 5, 5: 2}},
		{"a next page beyond all", 600, map[int]int{2: 11}},
		{"a next page far beyond all", 600, map[int]int{2: most + 1}},
		{"a next page as far as may be", 600, map[int]int{2: math.MaxUint32}},
		{"a next page of one byte alone", 600, map[int]int{2: 3 << 24}},
		{"a next page that is the root", 600, map[int]int{2: 1}},
		{"behind the last one the root", 400, map[int]int{2: 1}},
		{"behind the last one none that is", 400, map[int]int{2: 11}},
		{"behind the last one none that may be", 600, map[int]int{2: 3, 3: math.MaxUint32}},
		{"a later one beyond all", 1500, map[int]int{2: 10, 10: 11}},
	}
}

// broken is a heap of ten pages with that chain.
func broken(t *testing.T, b brokenChain) (*pager.Pager, *free.Heap) {
	t.Helper()
	p, h := made(t, 10)
	for n := 2; n <= 10; n++ {
		must(t, p.Put(n, linkPage(b.nexts[n], value(n, 1))))
	}
	return p, h
}

func TestChainsThatMayNotBe(t *testing.T) {
	for _, b := range brokenChains() {
		t.Run(b.name, func(t *testing.T) {
			p, h := broken(t, b)
			wantUnchanged(t, p, func() {
				for _, f := range goers() {
					wantRefused(t, b.name, f, h, 2, b.n, api.ErrBad)
				}
			})
			must(t, p.Commit())
			for _, f := range goers() {
				want := api.ErrBad
				if f.writes {
					want = api.ErrState
				}
				wantRefused(t, "out of a transaction", f, h, 2, b.n, want)
			}
		})
	}
}

func TestBytesBehindTheEnd(t *testing.T) {
	for _, n := range []int{1, 507, 509, 1017, 39*room + 1, payload} {
		p, h := made(t, 1)
		b := value(n, n)
		at := written(t, h, b)
		last := p.Pages()
		page, e := p.Get(last)
		must(t, e)
		for _, i := range []int{size - (spill.Count(n)*room - n), size - 1} {
			page[i] = 1
			must(t, p.Put(last, page))
			wantUnchanged(t, p, func() {
				if got, e := spill.Read(h, at, n); len(got) != 0 || e != api.ErrBad {
					t.Errorf("%d bytes, byte %d behind them: %d, %s", n, i, len(got), e)
				}
			})
			wantPages(t, h, at, n, span(2, last)...)
			page[i] = 0
			must(t, p.Put(last, page))
		}
		wantRead(t, h, at, b)
	}
}

func TestReadOfLessThanWasWritten(t *testing.T) {
	_, h := made(t, 1)
	at := written(t, h, value(1, 600))
	for _, n := range []int{509, 510, 598, 599} {
		if b, e := spill.Read(h, at, n); len(b) != 0 || e != api.ErrBad {
			t.Errorf("Read of %d bytes: %d, %s", n, len(b), e)
		}
	}
	wantRead(t, h, at, value(1, 600))
}

func TestOutOfATransaction(t *testing.T) {
	p, h := made(t, 4)
	given(t, h, 3)
	at := written(t, h, value(1, 600))
	must(t, p.Commit())
	wantUnchanged(t, p, func() {
		for _, f := range faces() {
			if f.writes {
				wantRefused(t, "no transaction", f, h, at, 600, api.ErrState)
				wantRefused(t, "no transaction", f, h, at, payload+1, api.ErrArg)
				wantRefused(t, "no transaction", f, h, at, 0, api.ErrArg)
			}
		}
		wantErr(t, "Free of no page", spill.Free(h, 0, 600), api.ErrState)
		wantErr(t, "Free of another length", spill.Free(h, at, 5), api.ErrState)
	})
	if p.Pages() != 5 {
		t.Errorf("%d pages", p.Pages())
	}
}

// dead is a heap whose pager died in a commit; page 2 has a value of 600 bytes.
func dead(t *testing.T) *free.Heap {
	t.Helper()
	d := disk.New(roomy)
	p, h := madeOn(t, d, 1)
	written(t, h, value(1, 600))
	must(t, p.Commit())
	must(t, p.Begin())
	must(t, h.Set(0, 1))
	must(t, d.Arm(1, disk.Crash{}))
	wantErr(t, "Commit", p.Commit(), api.ErrPower)
	return h
}

func TestADeadPager(t *testing.T) {
	h := dead(t)
	for _, f := range faces() {
		for _, page := range []int{2, 0, 1, -1, 99} {
			wantRefused(t, "a dead pager", f, h, page, 600, api.ErrPower)
			wantRefused(t, "a dead pager", f, h, page, 0, api.ErrArg)
			wantRefused(t, "a dead pager", f, h, page, payload+1, api.ErrArg)
		}
	}
}

// TestADiskWithoutPower: the pager lives, but can not read what it has not cached.
func TestADiskWithoutPower(t *testing.T) {
	d := disk.New(roomy)
	p, h := madeOn(t, d, 1)
	at := written(t, h, value(1, payload))
	must(t, p.Commit())
	p = opened(t, d)
	h = mustOpen(t, p)
	must(t, p.Begin())
	wantRead(t, h, at, value(1, payload))
	d.Crash(disk.Crash{})
	for _, f := range faces() {
		wantRefused(t, "a disk without power", f, h, at, payload, api.ErrPower)
		wantRefused(t, "a disk without power", f, h, at, 0, api.ErrArg)
	}
	// The last eight pages are cached; the chain from the last one on needs no other.
	wantPages(t, h, 41, 5, 41)
	if p.Pages() != 41 || len(p.Changed()) != 0 {
		t.Errorf("%d pages, changed %v", p.Pages(), p.Changed())
	}
}

// TestADiskThatWasCut: the disk's own errors are told as they are.
func TestADiskThatWasCut(t *testing.T) {
	d := disk.New(roomy)
	p, h := madeOn(t, d, 1)
	at := written(t, h, value(1, 600))
	must(t, p.Commit())
	p = opened(t, d)
	h = mustOpen(t, p)
	must(t, d.Cut(disk.Data, 8))
	for _, f := range readers() {
		wantRefused(t, "a disk that was cut", f, h, at, 600, api.ErrRange)
	}
}

// TestTheRootIsNoMore: of a heap whose pages were undone.
func TestTheRootIsNoMore(t *testing.T) {
	p, h := made(t, 3)
	must(t, p.Rollback())
	must(t, p.Begin())
	for _, f := range faces() {
		want := api.ErrBad
		if f.writes {
			want = api.ErrRange
		}
		wantRefused(t, "no page at all", f, h, 2, 5, want)
	}
}

// rootOf is a root's bytes, all words of which are 0.
func rootOf(first, count int) []byte {
	b := []byte("hachure1")
	b = binary.BigEndian.AppendUint32(b, uint32(first))
	b = binary.BigEndian.AppendUint32(b, uint32(count))
	return append(b, make([]byte, size-len(b))...)
}

// trunkOf is the bytes of a trunk with these leaves.
func trunkOf(next int, leaves ...int) []byte {
	b := binary.BigEndian.AppendUint32(nil, uint32(next))
	b = binary.BigEndian.AppendUint32(b, uint32(len(leaves)))
	for _, n := range leaves {
		b = binary.BigEndian.AppendUint32(b, uint32(n))
	}
	return append(b, make([]byte, size-len(b))...)
}

// TestAListThatMayNotBe: those who take or give pages are told so, others need no list.
func TestAListThatMayNotBe(t *testing.T) {
	p, h := made(t, 10)
	chained(t, p, value(1, 600), 2, 3)
	must(t, p.Put(1, rootOf(99, 3)))
	wantUnchanged(t, p, func() {
		for _, f := range faces() {
			if f.writes {
				wantRefused(t, "a list", f, h, 2, 600, api.ErrBad)
				wantRefused(t, "a list", f, h, 2, 0, api.ErrArg)
			}
		}
	})
	wantPages(t, h, 2, 600, 2, 3)
	wantRead(t, h, 2, value(1, 600))
	must(t, p.Commit())
	for _, f := range faces() {
		if f.writes {
			wantRefused(t, "a list, out of a transaction", f, h, 2, 600, api.ErrState)
		}
	}
}

func TestNoRoomForAllPages(t *testing.T) {
	cases := []struct {
		name         string
		pages, given int
		n            int
		want         api.Errno
	}{
		{"no page at all", most, 0, 1, api.ErrFull},
		{"one is free", most, 1, 508, api.OK},
		{"one is free, two are needed", most, 1, 509, api.ErrFull},
		{"one can be made", most - 1, 0, 508, api.OK},
		{"one can be made, two are needed", most - 1, 0, 509, api.ErrFull},
		{"one is free, one can be made", most - 1, 1, 1016, api.OK},
		{"one is free, one can be made, three are needed", most - 1, 1, 1017, api.ErrFull},
		{"all but one can be made", most - 39, 0, payload, api.ErrFull},
		{"all can be made", most - 40, 0, payload, api.OK},
		{"all but one are free", most, 39, payload, api.ErrFull},
		{"all are free", most, 40, payload, api.OK},
		{"all but one are free or can be made", most - 20, 19, payload, api.ErrFull},
		{"all are free or can be made", most - 20, 20, payload, api.OK},
	}
	for _, c := range cases {
		t.Run(c.name, func(t *testing.T) {
			p, h := made(t, c.pages)
			given(t, h, span(100, 100+c.given-1)...)
			if c.want == api.OK {
				at := written(t, h, value(1, c.n))
				wantRead(t, h, at, value(1, c.n))
				return
			}
			wantUnchanged(t, p, func() {
				for range 2 {
					if at, e := spill.Write(h, value(1, c.n)); at != 0 || e != c.want {
						t.Errorf("Write: %d, %s, want %s", at, e, c.want)
					}
				}
			})
			// Nothing was lost: what fits still does.
			if fits := (c.given + most - c.pages) * room; fits > 0 {
				at := written(t, h, value(2, min(fits, payload)))
				wantRead(t, h, at, value(2, min(fits, payload)))
			}
		})
	}
}

func TestErrorsAheadOfNoRoom(t *testing.T) {
	p, h := made(t, most)
	if at, e := spill.Write(h, make([]byte, payload+1)); at != 0 || e != api.ErrArg {
		t.Errorf("Write: %d, %s", at, e)
	}
	must(t, p.Put(1, rootOf(most+1, 1)))
	if at, e := spill.Write(h, make([]byte, 5)); at != 0 || e != api.ErrBad {
		t.Errorf("Write: %d, %s", at, e)
	}
}

// TestATrunkThatIsALeaf: the list is shorter, once that leaf is taken; what was taken of it goes back.
func TestATrunkThatIsALeaf(t *testing.T) {
	p, h := made(t, most)
	must(t, p.Put(1, rootOf(10, 13)))
	must(t, p.Put(10, trunkOf(20, 20)))
	must(t, p.Put(20, trunkOf(0, span(30, 39)...)))
	wantFree(t, h, slices.Concat([]int{10, 20, 20}, span(30, 39))...)
	wantUnchanged(t, p, func() {
		if at, e := spill.Write(h, value(1, 5*room)); at != 0 || e != api.ErrFull {
			t.Errorf("Write: %d, %s", at, e)
		}
	})
	// It can not be said to be the first one of what is refused, either.
	if at, e := spill.Write(h, value(1, room)); at != 20 || e != api.OK {
		t.Errorf("Write: %d, %s", at, e)
	}
}

// TestFreeOfTrunks: they lead from one to the next, as chains do; given back they may make a list that leads back into itself.
func TestFreeOfTrunks(t *testing.T) {
	p, h := made(t, 300)
	given(t, h, span(2, 2+2*leaves+1)...)
	second := 2 + leaves + 1
	wantPages(t, h, second, 600, second, 2)
	wantUnchanged(t, p, func() {
		wantErr(t, "Free", spill.Free(h, second, 600), api.ErrBad)
	})
	wantFree(t, h, slices.Concat(span(second, 2+2*leaves+1), span(2, second-1))...)
}

// TestARootThatCanCountNoFurther refuses a page of the chain, once it has others.
func TestARootThatCanCountNoFurther(t *testing.T) {
	for _, less := range []int{0, 1, 2} {
		p, h := made(t, 10)
		must(t, p.Put(1, rootOf(0, math.MaxUint32-less)))
		chained(t, p, value(1, 1500), 2, 3, 4)
		wantUnchanged(t, p, func() {
			wantErr(t, "Free", spill.Free(h, 2, 1500), api.ErrBad)
		})
		wantRead(t, h, 2, value(1, 1500))
	}
}

// TestFreedTwice: whether a page is free already is not asked.
func TestFreedTwice(t *testing.T) {
	_, h := made(t, 1)
	at := written(t, h, value(1, 5))
	must(t, spill.Free(h, at, 5))
	must(t, spill.Free(h, at, 5))
	wantFree(t, h, 2, 2)
}
