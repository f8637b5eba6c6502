package tree_test

import (
	"bytes"
	"encoding/binary"
	"math"
	"slices"
	"testing"

	"hachure/api"
	"hachure/disk"
	"hachure/free"
	"hachure/pager"
	"hachure/tree"
)

func must(t *testing.T, e api.Errno) {
	t.Helper()
	if e != api.OK {
		t.Fatalf("an error: %s", e)
	}
}

func wantErr(t *testing.T, what string, got, want api.Errno) {
	t.Helper()
	if got != want {
		t.Errorf("%s: %s, want %s", what, got, want)
	}
}

func opened(t *testing.T, d *disk.Disk) *pager.Pager {
	t.Helper()
	p, e := pager.Open(d, 8)
	must(t, e)
	return p
}

// heaped is a heap in a transaction, that has so many pages, its root among them.
func heaped(t *testing.T, pages int) (*pager.Pager, *free.Heap) {
	t.Helper()
	return heapedOn(t, disk.New(roomy), pages)
}

func heapedOn(t *testing.T, d *disk.Disk, pages int) (*pager.Pager, *free.Heap) {
	t.Helper()
	p := opened(t, d)
	must(t, p.Begin())
	h, e := free.Make(p)
	must(t, e)
	for p.Pages() < pages {
		_, e := p.Grow()
		must(t, e)
	}
	return p, h
}

// made is an empty tree in a transaction; its root is page 2.
func made(t *testing.T) (*pager.Pager, *free.Heap, *tree.Tree) {
	t.Helper()
	return madeOn(t, disk.New(roomy))
}

func madeOn(t *testing.T, d *disk.Disk) (*pager.Pager, *free.Heap, *tree.Tree) {
	t.Helper()
	p, h := heapedOn(t, d, 1)
	x, e := tree.Make(h)
	must(t, e)
	return p, h, x
}

func openedTree(t *testing.T, h *free.Heap, root int) *tree.Tree {
	t.Helper()
	x, e := tree.Open(h, root)
	must(t, e)
	return x
}

// reopened is the tree of that root, with all below it opened anew.
func reopened(t *testing.T, d *disk.Disk, root int) (*pager.Pager, *free.Heap, *tree.Tree) {
	t.Helper()
	p := opened(t, d)
	h, e := free.Open(p)
	must(t, e)
	return p, h, openedTree(t, h, root)
}

func marked(t *testing.T, p *pager.Pager) int {
	t.Helper()
	m, e := p.Mark()
	must(t, e)
	return m
}

// planted is a heap with these nodes, the first of them on page 2, and so on; page 2 is a tree's root.
func planted(t *testing.T, nodes ...rawNode) (*pager.Pager, *free.Heap, *tree.Tree) {
	t.Helper()
	p, h := heaped(t, 1+len(nodes))
	for i, n := range nodes {
		must(t, p.Put(2+i, n.bytes()))
	}
	return p, h, openedTree(t, h, 2)
}

// chained makes pages, one behind the other, a chain of these bytes.
func chained(t *testing.T, p *pager.Pager, b []byte, pages ...int) {
	t.Helper()
	for i, n := range pages {
		next := 0
		if i+1 < len(pages) {
			next = pages[i+1]
		}
		page := binary.BigEndian.AppendUint32(nil, uint32(next))
		page = append(page, b[i*room:min(len(b), (i+1)*room)]...)
		must(t, p.Put(n, append(page, make([]byte, size-len(page))...)))
	}
}

// value is n bytes, none of them 0, that are the same in each run.
func value(seed, n int) []byte {
	out := make([]byte, n)
	s := uint64(seed)*2654435761 + 88172645463325253
	for i := range out {
		s ^= s << 13
		s ^= s >> 7
		s ^= s << 17
		out[i] = byte(s>>32) | 1
	}
	return out
}

// span is the numbers from low to high.
func span(low, high int) []int {
	var out []int
	for n := low; n <= high; n++ {
		out = append(out, n)
	}
	return out
}

// mixed is l in an order that is the same in each run.
func mixed(seed int, l []int) []int {
	s := dice{uint64(seed)*2654435761 + 1}
	out := slices.Clone(l)
	for i := range out {
		j := i + s.under(len(out)-i)
		out[i], out[j] = out[j], out[i]
	}
	return out
}

// falling is l from its end on.
func falling(l []int) []int {
	out := slices.Clone(l)
	slices.Reverse(out)
	return out
}

// fileOf is all pages, as the transaction has them.
func fileOf(t *testing.T, p *pager.Pager) file {
	t.Helper()
	var out file
	for n := range p.Pages() {
		b, e := p.Get(n + 1)
		must(t, e)
		out = append(out, b)
	}
	return out
}

// wantSound is what the tree tells by the chapters' words, by which it has to be right.
func wantSound(t *testing.T, p *pager.Pager, x *tree.Tree) told {
	t.Helper()
	got, ok := fileOf(t, p).tree(x.Root(), bytesToo)
	if !ok {
		t.Fatal("the tree is not as the chapter has it")
	}
	wantErr(t, "Sound", x.Sound(), api.OK)
	return got
}

// wantTree holds all that the tree tells, and its pages, against the pairs that were put.
func wantTree(t *testing.T, p *pager.Pager, x *tree.Tree, want map[int][]byte) told {
	t.Helper()
	got := wantSound(t, p, x)
	if len(got.values) != len(want) {
		t.Fatalf("%d keys, want %d", len(got.values), len(want))
	}
	for k, v := range want {
		if !bytes.Equal(got.values[k], v) {
			t.Fatalf("key %d has another value", k)
		}
		wantValue(t, x, k, v)
	}
	if n, e := x.Len(); n != len(want) || e != api.OK {
		t.Fatalf("Len: %d, %s, want %d", n, e, len(want))
	}
	if n, e := x.Height(); n != got.height || e != api.OK {
		t.Fatalf("Height: %d, %s, want %d", n, e, got.height)
	}
	if l, e := x.Pages(); !slices.Equal(l, got.pages) || e != api.OK {
		t.Fatalf("Pages: %v, %s, want %v", l, e, got.pages)
	}
	wantRow(t, x, got.keys)
	return got
}

// wantValue asks that the key have that value.
func wantValue(t *testing.T, x *tree.Tree, key int, want []byte) {
	t.Helper()
	if b, ok, e := x.Get(key); !bytes.Equal(b, want) || !ok || e != api.OK {
		t.Fatalf("Get(%d): %d bytes, or other ones, %v, %s", key, len(b), ok, e)
	}
}

// wantNoValue asks that the key have none.
func wantNoValue(t *testing.T, x *tree.Tree, key int) {
	t.Helper()
	if b, ok, e := x.Get(key); len(b) > 0 || ok || e != api.OK {
		t.Fatalf("Get(%d): %d bytes, %v, %s", key, len(b), ok, e)
	}
}

// wantNext asks for the key above.
func wantNext(t *testing.T, x *tree.Tree, key, want int, is bool) {
	t.Helper()
	if k, ok, e := x.Next(key); k != want || ok != is || e != api.OK {
		t.Fatalf("Next(%d): %d, %v, %s, want %d, %v", key, k, ok, e, want, is)
	}
}

// wantPrev asks for the key below.
func wantPrev(t *testing.T, x *tree.Tree, key, want int, is bool) {
	t.Helper()
	if k, ok, e := x.Prev(key); k != want || ok != is || e != api.OK {
		t.Fatalf("Prev(%d): %d, %v, %s, want %d, %v", key, k, ok, e, want, is)
	}
}

// wantRow asks that going by Next and Prev tell just these keys.
func wantRow(t *testing.T, x *tree.Tree, keys []int) {
	t.Helper()
	for i, k := range keys {
		if i+1 < len(keys) {
			wantNext(t, x, k, keys[i+1], true)
			wantPrev(t, x, keys[i+1], k, true)
		}
	}
	if len(keys) > 0 {
		wantPrev(t, x, keys[0], 0, false)
		wantNext(t, x, keys[len(keys)-1], 0, false)
	}
	first, last := 0, 0
	if len(keys) > 0 {
		first, last = keys[0], keys[len(keys)-1]
	}
	if first != math.MinInt {
		wantNext(t, x, math.MinInt, first, len(keys) > 0)
	}
	if last != math.MaxInt {
		wantPrev(t, x, math.MaxInt, last, len(keys) > 0)
	}
}

// wantOwned asks that each page but the first belong to one of the trees, or be free.
func wantOwned(t *testing.T, p *pager.Pager, h *free.Heap, trees ...*tree.Tree) {
	t.Helper()
	all, e := h.All()
	must(t, e)
	for _, x := range trees {
		l, e := x.Pages()
		must(t, e)
		all = append(all, l...)
	}
	slices.Sort(all)
	if !slices.Equal(all, span(2, p.Pages())) {
		t.Fatalf("of %d pages just these belong to a tree, or are free: %v", p.Pages(), all)
	}
}

// wantFree asks that just these pages be free, in whichever order.
func wantFree(t *testing.T, h *free.Heap, pages ...int) {
	t.Helper()
	all, e := h.All()
	slices.Sort(all)
	if e != api.OK || !slices.Equal(all, pages) {
		t.Fatalf("free are %v, %s, want %v", all, e, pages)
	}
}

// wantPages asks for the tree's pages.
func wantPages(t *testing.T, x *tree.Tree, want ...int) {
	t.Helper()
	if l, e := x.Pages(); e != api.OK || !slices.Equal(l, want) {
		t.Fatalf("Pages: %v, %s, want %v", l, e, want)
	}
}

func wantHeight(t *testing.T, x *tree.Tree, want int) {
	t.Helper()
	if n, e := x.Height(); n != want || e != api.OK {
		t.Fatalf("Height: %d, %s, want %d", n, e, want)
	}
}

func wantLen(t *testing.T, x *tree.Tree, want int) {
	t.Helper()
	if n, e := x.Len(); n != want || e != api.OK {
		t.Fatalf("Len: %d, %s, want %d", n, e, want)
	}
}

// wantDeleted deletes a key, and asks whether it was there.
func wantDeleted(t *testing.T, x *tree.Tree, key int, want bool) {
	t.Helper()
	if ok, e := x.Delete(key); ok != want || e != api.OK {
		t.Fatalf("Delete(%d): %v, %s, want %v", key, ok, e, want)
	}
}

// look is what a pager tells of its pages.
type look struct {
	pages   string
	changed string
	busy    bool
}

func lookAt(t *testing.T, p *pager.Pager) look {
	t.Helper()
	var changed []byte
	for _, n := range p.Changed() {
		changed = binary.BigEndian.AppendUint32(changed, uint32(n))
	}
	return look{string(slices.Concat(fileOf(t, p)...)), string(changed), p.Busy()}
}

// wantUnchanged does something that changes nothing.
func wantUnchanged(t *testing.T, p *pager.Pager, done func()) {
	t.Helper()
	ahead := lookAt(t, p)
	done()
	if lookAt(t, p) != ahead {
		t.Error("something has changed")
	}
}

// face is a call of a tree that answers an error.
type face struct {
	name string
	// writes: it is for a transaction alone.
	writes bool
	// whole: it looks at all nodes, whichever key is asked for.
	whole bool
	call  func(x *tree.Tree, key int) (e api.Errno, zero bool)
}

// faces are all of them; Put is asked for five bytes.
func faces() []face {
	return []face{
		{"Get", false, false, func(x *tree.Tree, key int) (api.Errno, bool) {
			b, ok, e := x.Get(key)
			return e, len(b) == 0 && !ok
		}},
		{"Next", false, false, func(x *tree.Tree, key int) (api.Errno, bool) {
			k, ok, e := x.Next(key)
			return e, k == 0 && !ok
		}},
		{"Prev", false, false, func(x *tree.Tree, key int) (api.Errno, bool) {
			k, ok, e := x.Prev(key)
			return e, k == 0 && !ok
		}},
		{"Len", false, true, func(x *tree.Tree, _ int) (api.Errno, bool) {
			n, e := x.Len()
			return e, n == 0
		}},
		{"Height", false, false, func(x *tree.Tree, _ int) (api.Errno, bool) {
			n, e := x.Height()
			return e, n == 0
		}},
		{"Pages", false, true, func(x *tree.Tree, _ int) (api.Errno, bool) {
			l, e := x.Pages()
			return e, len(l) == 0
		}},
		{"Sound", false, true, func(x *tree.Tree, _ int) (api.Errno, bool) {
			return x.Sound(), true
		}},
		{"Put", true, false, func(x *tree.Tree, key int) (api.Errno, bool) {
			return x.Put(key, []byte("value")), true
		}},
		{"Delete", true, false, func(x *tree.Tree, key int) (api.Errno, bool) {
			ok, e := x.Delete(key)
			return e, !ok
		}},
		{"Drop", true, true, func(x *tree.Tree, _ int) (api.Errno, bool) {
			return x.Drop(), true
		}},
	}
}

// wantRefused asks a face for that error, beside which all is zero.
func wantRefused(t *testing.T, what string, f face, x *tree.Tree, key int, want api.Errno) {
	t.Helper()
	if e, zero := f.call(x, key); e != want || !zero {
		t.Errorf("%s: %s(%d): %s, zero: %v; want %s", what, f.name, key, e, zero, want)
	}
}

// dice tells numbers that are the same in each run.
type dice struct{ seed uint64 }

func (s *dice) under(n int) int {
	s.seed ^= s.seed << 13
	s.seed ^= s.seed >> 7
	s.seed ^= s.seed << 17
	return int(s.seed>>33) % n
}
