package tree_test

import (
	"maps"
	"math"
	"slices"
	"testing"

	"hachure/api"
	"hachure/disk"
	"hachure/free"
	"hachure/pager"
	"hachure/tree"
)

// bench is a tree, all below it, and the map that it is held to.
type bench struct {
	t         *testing.T
	s         *dice
	d         *disk.Disk
	p         *pager.Pager
	h         *free.Heap
	x         *tree.Tree
	now, sure map[int][]byte
	// keys are how many there may be, wide how far they are from one another.
	keys, wide int
	longest    int
}

func newBench(t *testing.T, seed uint64) *bench {
	t.Helper()
	b := &bench{t: t, s: &dice{seed*2654435761 + 1}, d: disk.New(roomy), now: map[int][]byte{}}
	for range 10 {
		b.s.under(2)
	}
	b.p, b.h, b.x = madeOn(t, b.d)
	b.keys = []int{20, 200, 2000}[b.s.under(3)]
	b.wide = []int{1, 100, 1 << 40, math.MaxInt / b.keys}[b.s.under(4)]
	b.longest = []int{10, 96, 300, payload}[b.s.under(4)]
	return b
}

func (b *bench) key() int {
	if b.s.under(20) == 0 {
		return ends()[b.s.under(len(ends()))]
	}
	return (b.s.under(2*b.keys+1) - b.keys) * b.wide
}

func (b *bench) value() []byte {
	if b.s.under(30) == 0 {
		return value(b.s.under(1<<30), b.s.under(payload+1))
	}
	return value(b.s.under(1<<30), b.s.under(b.longest+1)/(1+b.s.under(4)))
}

func (b *bench) put() {
	b.t.Helper()
	k, v := b.key(), b.value()
	must(b.t, b.x.Put(k, v))
	b.now[k] = v
}

// delete takes a key, mostly one that is there.
func (b *bench) delete() {
	b.t.Helper()
	k := b.key()
	if b.s.under(5) > 0 {
		if next, ok, e := b.x.Next(k); e == api.OK && ok {
			k = next
		}
	}
	_, is := b.now[k]
	wantDeleted(b.t, b.x, k, is)
	delete(b.now, k)
}

// ask holds what is told of a key against the map.
func (b *bench) ask() {
	b.t.Helper()
	k := b.key()
	if v, is := b.now[k]; is {
		wantValue(b.t, b.x, k, v)
	} else {
		wantNoValue(b.t, b.x, k)
	}
	above, below, isAbove, isBelow := 0, 0, false, false
	for n := range b.now {
		if n > k && (!isAbove || n < above) {
			above, isAbove = n, true
		}
		if n < k && (!isBelow || n > below) {
			below, isBelow = n, true
		}
	}
	wantNext(b.t, b.x, k, above, isAbove)
	wantPrev(b.t, b.x, k, below, isBelow)
}

// undone does something behind a mark, and undoes it.
func (b *bench) undone() {
	b.t.Helper()
	now := maps.Clone(b.now)
	m := marked(b.t, b.p)
	for range b.s.under(20) {
		b.put()
		b.delete()
	}
	must(b.t, b.p.Undo(m))
	b.now = now
}

// end commits what was done, or rolls it back, and opens all anew, or not.
func (b *bench) end() {
	b.t.Helper()
	if b.sure == nil || b.s.under(3) > 0 {
		must(b.t, b.p.Commit())
		b.sure = maps.Clone(b.now)
	} else {
		must(b.t, b.p.Rollback())
		b.now = maps.Clone(b.sure)
	}
	if b.s.under(2) == 0 {
		b.p, b.h, b.x = reopened(b.t, b.d, b.x.Root())
	}
	must(b.t, b.p.Begin())
}

func (b *bench) held() {
	b.t.Helper()
	wantTree(b.t, b.p, b.x, b.now)
	wantOwned(b.t, b.p, b.h, b.x)
}

func TestAgainstAMap(t *testing.T) {
	t.Parallel()
	for seed := range uint64(48) {
		b := newBench(t, seed)
		// A tree grows for a while, and shrinks for a while.
		for i := range 400 {
			grows := i/100%2 == 0
			switch n := b.s.under(20); {
			case n == 0:
				b.undone()
			case n == 1:
				b.end()
			case n < 4:
				b.ask()
			case grows == (n < 17):
				b.put()
			default:
				b.delete()
			}
			if i%100 == 99 {
				b.held()
			}
		}
	}
}

// FuzzSteps: whatever is put and deleted, the tree is a map.
func FuzzSteps(f *testing.F) {
	f.Add([]byte{1, 2, 3, 4, 5, 6}, byte(3))
	f.Add([]byte("put and delete and put again, and so on and on"), byte(96))
	f.Add(slices.Repeat([]byte{9, 200, 17, 33, 250, 128, 2}, 60), byte(90))
	f.Fuzz(func(t *testing.T, steps []byte, length byte) {
		p, h, x := made(t)
		all := map[int][]byte{}
		for i := 0; i+1 < len(steps); i += 2 {
			k := int(int8(steps[i])) << (steps[i+1] % 56)
			if steps[i+1] >= 192 {
				_, is := all[k]
				wantDeleted(t, x, k, is)
				delete(all, k)
				continue
			}
			all[k] = value(i, int(length)*int(steps[i+1]%4))
			must(t, x.Put(k, all[k]))
		}
		wantTree(t, p, x, all)
		wantOwned(t, p, h, x)
	})
}
