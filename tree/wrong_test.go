package tree_test

import (
	"bytes"
	"encoding/binary"
	"math"
	"testing"

	"hachure/api"
	"hachure/disk"
	"hachure/free"
	"hachure/pager"
	"hachure/tree"
)

// keys are some at which calls are asked that are refused.
func keys() []int {
	return []int{math.MinInt, -1, 0, 1, math.MaxInt}
}

func TestTreesThatNoCallMade(t *testing.T) {
	_, _, dropped := made(t)
	must(t, dropped.Drop())
	for what, x := range map[string]*tree.Tree{"nil": nil, "zero": {}, "dropped": dropped} {
		for _, f := range faces() {
			for _, k := range keys() {
				wantRefused(t, what, f, x, k, api.ErrMade)
			}
		}
		wantErr(t, what+": Put of too long a value", x.Put(1, make([]byte, payload+1)), api.ErrMade)
		wantErr(t, what+": Put of no value", x.Put(1, nil), api.ErrMade)
		if n := x.Root(); n != 0 {
			t.Errorf("%s: Root: %d", what, n)
		}
	}
}

// TestATreeThatWasDropped changes nothing any more.
func TestATreeThatWasDropped(t *testing.T) {
	p, h, x := made(t)
	must(t, x.Put(1, value(1, 700)))
	y := openedTree(t, h, 2)
	must(t, x.Drop())
	wantUnchanged(t, p, func() {
		for _, f := range faces() {
			wantRefused(t, "dropped", f, x, 1, api.ErrMade)
		}
	})
	wantFree(t, h, 2, 3, 4)
	must(t, p.Commit())
	for _, f := range faces() {
		wantRefused(t, "dropped, no transaction", f, x, 1, api.ErrMade)
	}
	// Another one of the same root was not dropped by a call of its own.
	if y.Root() != 2 {
		t.Errorf("Root: %d", y.Root())
	}
}

func TestHeapsThatNoCallMade(t *testing.T) {
	for what, h := range map[string]*free.Heap{"nil": nil, "zero": {}} {
		if x, e := tree.Make(h); x != nil || e != api.ErrMade {
			t.Errorf("%s: Make: %v, %s", what, x, e)
		}
		for _, root := range []int{math.MinInt, -1, 0, 1, 2, 3, math.MaxInt} {
			if x, e := tree.Open(h, root); x != nil || e != api.ErrMade {
				t.Errorf("%s: Open(%d): %v, %s", what, root, x, e)
			}
		}
	}
}

func TestNoTransaction(t *testing.T) {
	p, h, x := made(t)
	must(t, x.Put(1, value(1, 600)))
	must(t, h.Set(0, 3))
	must(t, p.Commit())
	wantUnchanged(t, p, func() {
		if y, e := tree.Make(h); y != nil || e != api.ErrState {
			t.Errorf("Make: %v, %s", y, e)
		}
		for _, f := range faces() {
			for _, k := range keys() {
				if f.writes {
					wantRefused(t, "no transaction", f, x, k, api.ErrState)
				}
			}
		}
		wantErr(t, "Put of too long a value", x.Put(1, make([]byte, payload+1)), api.ErrState)
	})
	wantTree(t, p, x, map[int][]byte{1: value(1, 600)})
	if p.Commits() != 1 || x.Root() != 2 {
		t.Errorf("%d commits, root %d", p.Commits(), x.Root())
	}
	must(t, p.Begin())
	must(t, x.Drop())
}

func TestValuesThatAreTooLong(t *testing.T) {
	p, _, x := made(t)
	must(t, x.Put(1, value(1, 600)))
	for _, n := range []int{payload + 1, payload + 2, 2 * payload, 1 << 20} {
		wantUnchanged(t, p, func() {
			wantErr(t, "Put at a key that is there", x.Put(1, make([]byte, n)), api.ErrArg)
			wantErr(t, "Put at another one", x.Put(2, make([]byte, n)), api.ErrArg)
		})
	}
	must(t, x.Put(2, value(2, payload)))
	wantUnchanged(t, p, func() {
		wantErr(t, "Put", x.Put(2, make([]byte, payload+1)), api.ErrArg)
	})
	wantTree(t, p, x, map[int][]byte{1: value(1, 600), 2: value(2, payload)})
}

func TestRootsThatAreNone(t *testing.T) {
	p, h := heaped(t, 12)
	x, e := tree.Make(h)
	must(t, e)
	must(t, x.Put(1, value(1, 600)))
	must(t, h.Give(5))
	must(t, h.Give(6))
	must(t, p.Put(7, bytes.Repeat([]byte{0xEE}, size)))
	wrong := leafAt(1, 2).bytes()
	wrong[size-1] = 1
	must(t, p.Put(8, wrong))
	must(t, p.Put(9, leafAt(2, 1).bytes()))
	must(t, p.Put(10, aboveOf(0, 5, 3).bytes()))
	must(t, p.Put(11, []byte("a page of another kind"+string(make([]byte, size-22)))))
	wantUnchanged(t, p, func() {
		for _, root := range []int{math.MinInt, -2, -1, 0, 1, 2, 5, 6, 7, 8, 9, 10, 11, p.Pages(), p.Pages() + 1, most, most + 1, 1 << 32, 1<<32 + x.Root(), math.MaxInt} {
			if y, e := tree.Open(h, root); y != nil || e != api.ErrBad {
				t.Errorf("Open(%d): %v, %s", root, y, e)
			}
		}
	})
	if y := openedTree(t, h, x.Root()); y.Root() != 13 {
		t.Errorf("Root: %d", y.Root())
	}
	// No tree has the first page, though a node may stand there.
	must(t, p.Put(1, leafAt(1, 2).bytes()))
	if y, e := tree.Open(h, 1); y != nil || e != api.ErrBad {
		t.Errorf("Open(1): %v, %s", y, e)
	}
}

// TestOpenAsksTheRootAlone: what is below it is asked by those who come there.
func TestOpenAsksTheRootAlone(t *testing.T) {
	for _, root := range []rawNode{aboveOf(9, 5, 9), aboveOf(2, 5, 2), aboveOf(most, 5, 1), aboveOf(9)} {
		_, h, x := planted(t, root)
		wantErr(t, "Sound", x.Sound(), api.ErrBad)
		if y := openedTree(t, h, 2); y.Root() != 2 {
			t.Errorf("Root: %d", y.Root())
		}
	}
}

// spoilt is a tree that may not be; the way to key 0 comes by what is wrong.
type spoilt struct {
	name  string
	nodes []rawNode
}

// spoiltTrees are such ones; their pages are 2 on.
func spoiltTrees() []spoilt {
	return []spoilt{
		{"a child beyond all", []rawNode{aboveOf(9, 5, 3), leafAt(6)}},
		{"a child that is the heap's root", []rawNode{aboveOf(1, 5, 3), leafAt(6)}},
		{"a child beyond all, the last one", []rawNode{aboveOf(3, -5, 4), leafAt(-6)}},
		{"a child that is a chain", []rawNode{aboveOf(3, 5, 4), {right: 1 << 30}, leafAt(6)}},
		{"a leaf whose keys do not rise", []rawNode{aboveOf(3, 5, 4), leafAt(1, 0), leafAt(6)}},
		{"a leaf with a key twice", []rawNode{aboveOf(3, 5, 4), leafAt(0, 0), leafAt(6)}},
		{"a leaf with a key above its cell's", []rawNode{aboveOf(3, 5, 4), leafAt(0, 6), leafAt(7)}},
		{"a last leaf with the key of the cell ahead", []rawNode{aboveOf(3, -5, 4), leafAt(-7), leafAt(-5, 2)}},
		{"a leaf with a key below the cell's ahead", []rawNode{aboveOf(3, -5, 4, 8, 5), leafAt(-7), leafAt(-6, 2), leafAt(9)}},
		{"a node's keys that do not rise", []rawNode{aboveOf(3, 10, 4), aboveOf(5, 5, 6, 5, 7), leafAt(15), leafAt(1), leafAt(3), leafAt(6)}},
		{"a leaf's key above a cell two nodes up", []rawNode{aboveOf(3, 10, 4), aboveOf(5, -5, 6), aboveOf(7, 20, 8), leafAt(-6), leafAt(0, 11), leafAt(15), leafAt(25)}},
		{"a leaf's key not above a cell two nodes up", []rawNode{aboveOf(3, -10, 4), aboveOf(5, -15, 6), aboveOf(7, 20, 8), leafAt(-16), leafAt(-11), leafAt(-10, 15), leafAt(25)}},
		{"a node's key that is not below its cell's", []rawNode{aboveOf(3, 10, 4), aboveOf(5, 10, 6), aboveOf(7, 20, 8), leafAt(3), leafAt(11), leafAt(15), leafAt(25)}},
		{"a node's key above its cell's", []rawNode{aboveOf(3, 10, 4), aboveOf(5, 12, 6), aboveOf(7, 20, 8), leafAt(3), leafAt(13), leafAt(15), leafAt(25)}},
		{"a node's key not above the cell's ahead", []rawNode{aboveOf(3, -10, 4), aboveOf(5, -15, 6), aboveOf(7, -10, 8), leafAt(-16), leafAt(-11), leafAt(-10), leafAt(25)}},
		{"keys of a child behind the greatest", []rawNode{aboveOf(3, math.MaxInt, 4), leafAt(), leafAt(math.MaxInt)}},
		{"a leaf twice", []rawNode{aboveOf(3, 5, 3), leafAt(7)}},
		{"a leaf twice, its keys within the first", []rawNode{aboveOf(3, -5, 3), leafAt(-7)}},
		{"an empty leaf", []rawNode{aboveOf(3, 5, 4), leafAt(), leafAt(6)}},
		{"an empty leaf, the last one", []rawNode{aboveOf(3, -5, 4), leafAt(-6), leafAt()}},
		{"a root above leaves without cells", []rawNode{aboveOf(3), leafAt(1)}},
		{"a root above nothing", []rawNode{aboveOf(9)}},
		{"a node above leaves without cells", []rawNode{aboveOf(3, 5, 4), aboveOf(5), aboveOf(6, 10, 7), leafAt(1), leafAt(8), leafAt(12)}},
		{"a root that leads to itself", []rawNode{aboveOf(2, 5, 2)}},
		{"a root without cells that leads to itself", []rawNode{aboveOf(2)}},
		{"a child that leads to the root", []rawNode{aboveOf(3, 5, 4), aboveOf(2, 1, 2), leafAt(6)}},
		{"a child that leads to itself", []rawNode{aboveOf(3, 50, 4), aboveOf(3, 10, 3), leafAt(60)}},
	}
}

func TestTreesThatMayNotBe(t *testing.T) {
	for _, s := range spoiltTrees() {
		t.Run(s.name, func(t *testing.T) {
			p, _, x := planted(t, s.nodes...)
			wantUnchanged(t, p, func() {
				for _, f := range faces() {
					wantRefused(t, s.name, f, x, 0, api.ErrBad)
				}
				wantErr(t, "Put of too long a value", x.Put(0, make([]byte, payload+1)), api.ErrBad)
			})
			if x.Root() != 2 {
				t.Errorf("Root: %d", x.Root())
			}
			must(t, p.Commit())
			for _, f := range faces() {
				want := api.ErrBad
				if f.writes {
					want = api.ErrState
				}
				wantRefused(t, "no transaction", f, x, 0, want)
			}
		})
	}
}

// TestLeavesThatAreNotAsDeep: no single way tells.
func TestLeavesThatAreNotAsDeep(t *testing.T) {
	for _, nodes := range [][]rawNode{
		{aboveOf(3, 5, 4), leafAt(1), aboveOf(5, 10, 6), leafAt(8), leafAt(12)},
		{aboveOf(3, 5, 4), aboveOf(5, 2, 6), leafAt(8), leafAt(1), leafAt(4)},
		{aboveOf(3, 5, 4, 10, 5), leafAt(1), aboveOf(6, 7, 7), leafAt(12), leafAt(6), leafAt(8)},
		{aboveOf(3, 5, 4, 10, 5), aboveOf(6, 2, 7), leafAt(7), aboveOf(8, 12, 9), leafAt(1), leafAt(4), leafAt(11), leafAt(13)},
		{aboveOf(3, 5, 4), aboveOf(5, 2, 6), aboveOf(7, 10, 8), leafAt(1), leafAt(4), leafAt(8), aboveOf(9, 20, 10), leafAt(15), leafAt(25)},
	} {
		p, _, x := planted(t, nodes...)
		wantUnchanged(t, p, func() {
			for _, f := range faces() {
				if f.whole {
					wantRefused(t, "not as deep", f, x, 0, api.ErrBad)
				}
			}
		})
	}
}

// TestWaysThatAreTooDeep: a tree of just two children each, but on one side, is as deep as there are pages; nobody goes there.
func TestWaysThatAreTooDeep(t *testing.T) {
	for _, height := range []int{13, 14, 15, 400} {
		var nodes []rawNode
		// The node on page 2i has the leaf on page 2i + 1, and all the others behind its key.
		for i := range height - 1 {
			nodes = append(nodes, aboveOf(2*i+3, -height+i, 2*i+4), leafAt(-height+i))
		}
		nodes = append(nodes, leafAt(0))
		p, _, x := planted(t, nodes...)
		wantUnchanged(t, p, func() {
			for _, f := range faces() {
				if f.whole || height > 13 {
					wantRefused(t, "too deep", f, x, 0, api.ErrBad)
				}
			}
		})
		if height == 13 {
			wantHeight(t, x, 13)
			wantValue(t, x, 0, []byte("ab"))
			wantPrev(t, x, 0, -2, true)
		}
		wantValue(t, x, -height, []byte("ab"))
	}
}

// TestOtherWaysStay: what is wrong elsewhere in a tree does not hinder who does not come there.
func TestOtherWaysStay(t *testing.T) {
	p, _, x := planted(t, aboveOf(3, 5, 4, 10, 5), leafAt(1, 3), leafAt(), leafOf(short(12, string(value(1, 90))), short(14, string(value(2, 90)))))
	wantErr(t, "Sound", x.Sound(), api.ErrBad)
	wantValue(t, x, 3, []byte("ab"))
	wantNext(t, x, 1, 3, true)
	wantPrev(t, x, 14, 12, true)
	wantHeight(t, x, 2)
	must(t, x.Put(14, value(3, 96)))
	wantValue(t, x, 14, value(3, 96))
	for _, f := range faces() {
		if f.name == "Next" {
			wantRefused(t, "behind the leaf", f, x, 3, api.ErrBad)
		}
		if f.name == "Prev" {
			wantRefused(t, "ahead of the leaf", f, x, 12, api.ErrBad)
		}
	}
	// A leaf that has become light is joined with the one behind it.
	m := marked(t, p)
	wantUnchanged(t, p, func() {
		if ok, e := x.Delete(3); ok || e != api.ErrBad {
			t.Errorf("Delete: %v, %s", ok, e)
		}
		must(t, p.Undo(m))
	})
}

// TestNeighboursOfAnotherKind: a light node can not be joined with one that is not as deep.
func TestNeighboursOfAnotherKind(t *testing.T) {
	for _, nodes := range [][]rawNode{
		{aboveOf(3, 5, 4), leafAt(0, 1), aboveOf(5, 10, 6), leafAt(8), leafAt(12)},
		{aboveOf(3, -5, 4), aboveOf(5, -10, 6), leafAt(0, 1), leafAt(-12), leafAt(-7)},
		{aboveOf(3, 5, 4), aboveOf(5, -2, 6), leafAt(8), leafAt(-3), leafAt(0, 4)},
	} {
		p, _, x := planted(t, nodes...)
		m := marked(t, p)
		wantUnchanged(t, p, func() {
			if ok, e := x.Delete(0); ok || e != api.ErrBad {
				t.Errorf("Delete: %v, %s", ok, e)
			}
			must(t, p.Undo(m))
		})
	}
}

// TestChainsThatMayNotBe: of the value at key 0.
func TestChainsThatMayNotBe(t *testing.T) {
	cases := []struct {
		name string
		next int
		lay  func(p *pager.Pager)
	}{
		{"a page beyond all", 30, nil},
		{"the heap's root", 1, nil},
		{"a chain that is too short", 5, func(p *pager.Pager) { chained(t, p, value(1, 400), 5) }},
		{"a chain that is too long", 5, func(p *pager.Pager) { chained(t, p, value(1, 1500), 5, 6, 7) }},
		{"a chain that leads back", 5, func(p *pager.Pager) {
			must(t, p.Put(5, binary.BigEndian.AppendUint32(make([]byte, 0, size), 5)[:size]))
		}},
		{"a node", 4, nil},
	}
	for _, c := range cases {
		p, _, x := planted(t, aboveOf(3, 5, 4), leafOf(long(0, value(1, 800), c.next), short(2, "two")), leafAt(6), leafAt(), leafAt(), leafAt())
		if c.lay != nil {
			c.lay(p)
		}
		m := marked(t, p)
		wantUnchanged(t, p, func() {
			for _, f := range faces() {
				switch f.name {
				case "Len", "Height", "Next", "Prev":
					if e, _ := f.call(x, 0); e != api.OK {
						t.Errorf("%s: %s: %s", c.name, f.name, e)
					}
				default:
					wantRefused(t, c.name, f, x, 0, api.ErrBad)
				}
			}
			must(t, p.Undo(m))
		})
		wantLen(t, x, 3)
		wantValue(t, x, 2, []byte("two"))
	}
}

func TestBytesBehindAChain(t *testing.T) {
	p, h, x := planted(t, leafOf(long(0, value(1, 800), 3)), leafAt(), leafAt())
	chained(t, p, value(1, 800)[minLocal:], 3, 4)
	wantSound(t, p, x)
	b, e := p.Get(4)
	must(t, e)
	b[size-1] = 1
	must(t, p.Put(4, b))
	wantErr(t, "Sound", x.Sound(), api.ErrBad)
	if v, ok, e := x.Get(0); len(v) > 0 || ok || e != api.ErrBad {
		t.Errorf("Get: %d bytes, %v, %s", len(v), ok, e)
	}
	// Its pages are known, and can be given back.
	wantPages(t, x, 2, 3, 4)
	must(t, x.Put(0, []byte("new")))
	wantTree(t, p, x, map[int][]byte{0: []byte("new")})
	wantFree(t, h, 3, 4)
}

// TestPagesThatStandTwice: of one chain for two values, or of two for one.
func TestPagesThatStandTwice(t *testing.T) {
	a := value(1, 800)
	share := func(cells ...rawCell) (*pager.Pager, *tree.Tree) {
		p, _, x := planted(t, leafOf(cells...), leafAt(), leafAt(), leafAt(), leafAt())
		chained(t, p, a[minLocal:], 3, 4)
		return p, x
	}
	p, x := share(long(0, a, 3), short(1, "one"), long(2, a, 3))
	_, y := share(long(0, a, 3), long(2, a[:560], 4))
	for _, z := range []*tree.Tree{x, y} {
		wantErr(t, "Sound", z.Sound(), api.ErrBad)
		if l, e := z.Pages(); len(l) > 0 || e != api.ErrBad {
			t.Errorf("Pages: %v, %s", l, e)
		}
		wantErr(t, "Drop", z.Drop(), api.ErrBad)
		wantValue(t, z, 0, a)
	}
	wantValue(t, x, 2, a)
	wantUnchanged(t, p, func() { wantErr(t, "Drop", x.Drop(), api.ErrBad) })
}

// TestManyCellsOfOneChain: it is not gone over once for each of them.
func TestManyCellsOfOneChain(t *testing.T) {
	b := value(1, payload)
	root, nodes := rawNode{}, []rawNode{}
	for i := range 80 {
		n := rawNode{leaf: true}
		for j := range 10 {
			n.cells = append(n.cells, long(i*10+j, b, 100))
		}
		nodes = append(nodes, n)
		root.cells = append(root.cells, rawCell{child: 3 + i, key: i*10 + 9})
	}
	root.cells, root.right = root.cells[:79], 82
	p, _, x := planted(t, append([]rawNode{root}, nodes...)...)
	for p.Pages() < 150 {
		_, e := p.Grow()
		must(t, e)
	}
	chained(t, p, b[minLocal:], span(100, 139)...)
	wantLen(t, x, 800)
	wantErr(t, "Sound", x.Sound(), api.ErrBad)
	wantErr(t, "Drop", x.Drop(), api.ErrBad)
	wantValue(t, x, 17, b)
}

// dead is a tree whose pager died in a commit.
func dead(t *testing.T) (*free.Heap, *tree.Tree) {
	t.Helper()
	d := disk.New(roomy)
	p, h, x := madeOn(t, d)
	must(t, x.Put(1, value(1, 600)))
	must(t, p.Commit())
	must(t, p.Begin())
	must(t, h.Set(0, 1))
	must(t, d.Arm(1, disk.Crash{}))
	wantErr(t, "Commit", p.Commit(), api.ErrPower)
	return h, x
}

func TestADeadPager(t *testing.T) {
	h, x := dead(t)
	for _, f := range faces() {
		for _, k := range keys() {
			wantRefused(t, "a dead pager", f, x, k, api.ErrPower)
		}
	}
	wantErr(t, "Put of too long a value", x.Put(1, make([]byte, payload+1)), api.ErrPower)
	if y, e := tree.Make(h); y != nil || e != api.ErrPower {
		t.Errorf("Make: %v, %s", y, e)
	}
	for _, root := range []int{2, 0, 1, -1, 99} {
		if y, e := tree.Open(h, root); y != nil || e != api.ErrPower {
			t.Errorf("Open(%d): %v, %s", root, y, e)
		}
	}
	if x.Root() != 2 {
		t.Errorf("Root: %d", x.Root())
	}
}

// TestADiskWithoutPower: the pager lives, but can not read what it has not cached.
func TestADiskWithoutPower(t *testing.T) {
	d := disk.New(roomy)
	p, h, x := madeOn(t, d)
	for i := range 200 {
		must(t, x.Put(i, value(i, 90)))
	}
	must(t, p.Commit())
	p, h, x = reopened(t, d, 2)
	must(t, p.Begin())
	d.Crash(disk.Crash{})
	for _, f := range faces() {
		wantRefused(t, "a disk without power", f, x, 50, api.ErrPower)
	}
	if y, e := tree.Open(h, 20); y != nil || e != api.ErrPower {
		t.Errorf("Open: %v, %s", y, e)
	}
	if len(p.Changed()) != 0 {
		t.Errorf("changed: %v", p.Changed())
	}
}

// TestADiskThatWasCut: the disk's own errors are told as they are.
func TestADiskThatWasCut(t *testing.T) {
	d := disk.New(roomy)
	p, h, x := madeOn(t, d)
	must(t, x.Put(1, value(1, 90)))
	must(t, p.Commit())
	p = opened(t, d)
	h, e := free.Open(p)
	must(t, e)
	must(t, d.Cut(disk.Data, 4))
	if y, e := tree.Open(h, 2); y != nil || e != api.ErrRange {
		t.Errorf("Open: %v, %s", y, e)
	}
	if y, e := tree.Open(h, 3); y != nil || e != api.ErrBad {
		t.Errorf("Open: %v, %s", y, e)
	}
}

// TestPagesThatAreNoMore: of a tree whose Make was undone.
func TestPagesThatAreNoMore(t *testing.T) {
	p, h := heaped(t, 1)
	m := marked(t, p)
	x, e := tree.Make(h)
	must(t, e)
	must(t, x.Put(1, value(1, 90)))
	must(t, p.Undo(m))
	for _, f := range faces() {
		wantRefused(t, "undone", f, x, 1, api.ErrBad)
	}
	y, e := tree.Make(h)
	must(t, e)
	if y.Root() != x.Root() {
		t.Fatalf("the root is page %d", y.Root())
	}
	wantTree(t, p, x, nil)
}

// TestAListThatMayNotBe: those who take or give pages are told so.
func TestAListThatMayNotBe(t *testing.T) {
	p, h, x := made(t)
	all := fullLeaf(t, x)
	must(t, x.Put(40, value(1, 600)))
	all[40] = value(1, 600)
	root, e := p.Get(1)
	must(t, e)
	binary.BigEndian.PutUint32(root[8:], 99)
	binary.BigEndian.PutUint32(root[12:], 3)
	must(t, p.Put(1, root))
	m := marked(t, p)
	wantUnchanged(t, p, func() {
		if y, e := tree.Make(h); y != nil || e != api.ErrBad {
			t.Errorf("Make: %v, %s", y, e)
		}
		wantErr(t, "Put of a long value", x.Put(50, value(1, 97)), api.ErrBad)
		wantErr(t, "Drop", x.Drop(), api.ErrBad)
		if ok, e := x.Delete(40); ok || e != api.ErrBad {
			t.Errorf("Delete: %v, %s", ok, e)
		}
		must(t, p.Undo(m))
	})
	wantTree(t, p, x, all)
	must(t, x.Put(3, value(77, 18)))
	wantValue(t, x, 3, value(77, 18))
}

// crowded is a tree on a heap that has but so many pages left.
func crowded(t *testing.T, left int, fill func(x *tree.Tree)) (*pager.Pager, *free.Heap, *tree.Tree) {
	t.Helper()
	p, h, x := made(t)
	fill(x)
	for p.Pages() < most-left {
		_, e := p.Grow()
		must(t, e)
	}
	return p, h, x
}

func TestNoRoomForATree(t *testing.T) {
	p, h := heaped(t, most)
	wantUnchanged(t, p, func() {
		if x, e := tree.Make(h); x != nil || e != api.ErrFull {
			t.Errorf("Make: %v, %s", x, e)
		}
	})
	must(t, h.Give(77))
	x, e := tree.Make(h)
	must(t, e)
	wantPages(t, x, 77)
	if y, e := tree.Make(h); y != nil || e != api.ErrFull {
		t.Errorf("Make: %v, %s", y, e)
	}
}

// TestNoRoomForAPage: who calls undoes what may be done by half.
func TestNoRoomForAPage(t *testing.T) {
	leaf := func(x *tree.Tree) { fullLeaf(t, x) }
	one := func(x *tree.Tree) { must(t, x.Put(1, value(1, 2000))) }
	two := func(x *tree.Tree) {
		for i := range 6 {
			must(t, x.Put(i, value(i, 96)))
		}
		wantHeight(t, x, 2)
		must(t, x.Put(7, value(7, 96)))
		must(t, x.Put(8, value(8, 96)))
	}
	cases := []struct {
		name   string
		fill   func(x *tree.Tree)
		key    int
		length int
		needs  int
	}{
		{"a chain of one page", one, 0, 97, 1},
		{"a chain of one page, and a root that is cut", leaf, 90, 97, 3},
		{"a root that is cut", leaf, 90, 0, 2},
		{"a leaf that is cut", two, 9, 96, 1},
		{"a leaf that is cut, and a chain", two, 9, 5000, 11},
		{"a chain of forty pages", leaf, 3, payload, 42},
		{"a longer value in place of another", one, 1, payload, 36},
		{"as long a value in place of another", one, 1, 2000, 0},
		{"a shorter value in place of another", one, 1, 500, 0},
		{"a value that fits", one, 2, 96, 0},
	}
	for _, c := range cases {
		t.Run(c.name, func(t *testing.T) {
			for left := max(0, c.needs-2); left <= c.needs; left++ {
				p, h, x := crowded(t, left, c.fill)
				all := wantSound(t, p, x).values
				if left == c.needs {
					must(t, x.Put(c.key, value(5, c.length)))
					all[c.key] = value(5, c.length)
					wantTree(t, p, x, all)
					continue
				}
				m := marked(t, p)
				wantUnchanged(t, p, func() {
					wantErr(t, "Put", x.Put(c.key, value(5, c.length)), api.ErrFull)
					must(t, p.Undo(m))
				})
				wantTree(t, p, x, all)
				// What is given back is room for it.
				for n := range c.needs - left {
					must(t, h.Give(100+n))
				}
				must(t, x.Put(c.key, value(5, c.length)))
				all[c.key] = value(5, c.length)
				wantTree(t, p, x, all)
			}
		})
	}
}

// TestDeletingNeedsNoRoom, where no key between two nodes gets longer.
func TestDeletingNeedsNoRoom(t *testing.T) {
	p, _, x := crowded(t, 0, func(x *tree.Tree) {
		for i := range 60 {
			must(t, x.Put(i, value(i, 90+i)))
		}
	})
	for _, k := range mixed(1, span(0, 59)) {
		wantDeleted(t, x, k, true)
		wantSound(t, p, x)
	}
	wantTree(t, p, x, nil)
}

// TestDeletingMayNeedAPage: two leaves share their cells anew, the key between them is longer than the one that was there, and the node above is full.
func TestDeletingMayNeedAPage(t *testing.T) {
	root := rawNode{right: 42}
	nodes := []rawNode{{}}
	for i := range 38 {
		k := math.MinInt + i*100
		root.cells = append(root.cells, rawCell{child: 3 + i, key: k})
		nodes = append(nodes, leafAt(k))
	}
	root.cells = append(root.cells, rawCell{child: 41, key: 0})
	nodes[0] = root
	last := rawNode{leaf: true}
	for i := range 4 {
		last.cells = append(last.cells, short(math.MaxInt-9+i, string(value(i, 96))))
	}
	nodes = append(nodes, leafOf(short(-1, string(value(1, 90))), short(0, string(value(2, 90)))), last)
	p, h, x := planted(t, nodes...)
	all := wantSound(t, p, x).values
	delete(all, 0)
	m := marked(t, p)
	wantDeleted(t, x, 0, true)
	wantTree(t, p, x, all)
	wantHeight(t, x, 3)
	wantOwned(t, p, h, x)
	must(t, p.Undo(m))
	for p.Pages() < most {
		_, e := p.Grow()
		must(t, e)
	}
	m = marked(t, p)
	wantUnchanged(t, p, func() {
		if ok, e := x.Delete(0); ok || e != api.ErrFull {
			t.Errorf("Delete: %v, %s", ok, e)
		}
		must(t, p.Undo(m))
	})
	wantHeight(t, x, 2)
}
