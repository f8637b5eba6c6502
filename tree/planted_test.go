package tree_test

import (
	"math"
	"slices"
	"testing"

	"hachure/api"
	"hachure/free"
	"hachure/pager"
	"hachure/tree"
)

// garden is a tree that was not made by calls, but page by page: sound, and of any shape that may be.
type garden struct {
	t     *testing.T
	s     *dice
	p     *pager.Pager
	h     *free.Heap
	pages []int
	nodes []int
	// chains are the pages of values.
	chains []int
	root   int
}

// gardenPages is how many pages a garden has, some of which stay of noughts.
const gardenPages = 90

func newGarden(t *testing.T, seed int) *garden {
	t.Helper()
	g := &garden{t: t, s: &dice{uint64(seed)*2654435761 + 1}}
	for range 10 {
		g.s.under(2)
	}
	g.p, g.h = heaped(t, gardenPages)
	g.pages = mixed(seed, span(2, gardenPages))
	g.root = g.grow()
	return g
}

// page is one that nothing has yet.
func (g *garden) page() int {
	n := g.pages[0]
	g.pages = g.pages[1:]
	return n
}

func (g *garden) put(n rawNode) int {
	g.t.Helper()
	page := g.page()
	must(g.t, g.p.Put(page, n.bytes()))
	g.nodes = append(g.nodes, page)
	return page
}

// cell is one of a leaf, now and then with a chain.
func (g *garden) cell(key int) rawCell {
	g.t.Helper()
	if g.s.under(8) > 0 || len(g.pages) < 70 {
		return short(key, string(value(key, g.s.under(40))))
	}
	b := value(key, maxLocal+1+g.s.under(900))
	var pages []int
	for range chainOf(len(b)) {
		pages = append(pages, g.page())
	}
	chained(g.t, g.p, b[minLocal:], pages...)
	g.chains = append(g.chains, pages...)
	return long(key, b, pages[0])
}

// twig is a node that was put, and the least and greatest key below it.
type twig struct{ page, low, high int }

// grow puts leaves, and nodes above them till there is one.
func (g *garden) grow() int {
	g.t.Helper()
	wide := []int{1, 3, 1 << 50}[g.s.under(3)]
	key := -g.s.under(30) * wide
	var level []twig
	for range 1 + g.s.under(12) {
		n, low := rawNode{leaf: true}, key
		high := key
		for range 1 + g.s.under(4) {
			n.cells = append(n.cells, g.cell(key))
			high = key
			key += (1 + g.s.under(4)) * wide
		}
		level = append(level, twig{g.put(n), low, high})
	}
	for len(level) > 1 {
		level = g.above(level)
	}
	return level[0].page
}

// above puts nodes above those of a level, each with two children or more.
func (g *garden) above(level []twig) []twig {
	g.t.Helper()
	var out []twig
	for len(level) > 0 {
		count := min(2+g.s.under(3), len(level))
		if len(level)-count == 1 {
			count++
		}
		var l []int
		for i, w := range level[:count] {
			if i > 0 {
				between := level[i-1].high + g.s.under(min(w.low-level[i-1].high, math.MaxInt32))
				l = append(l, between)
			}
			l = append(l, w.page)
		}
		out = append(out, twig{g.put(aboveOf(l...)), level[0].low, level[count-1].high})
		level = level[count:]
	}
	return out
}

// some is one of l.
func (g *garden) some(l []int) int {
	return l[g.s.under(len(l))]
}

// any is the number of a page that may be, or not.
func (g *garden) any() int {
	switch g.s.under(8) {
	case 0:
		return []int{0, 1, gardenPages + 1, most, most + 1}[g.s.under(5)]
	case 1:
		return 2 + g.s.under(gardenPages-1)
	case 2:
		if len(g.chains) > 0 {
			return g.some(g.chains)
		}
	}
	return g.some(g.nodes)
}

// spoil changes one thing of the tree; it may be sound even so.
func (g *garden) spoil() {
	g.t.Helper()
	f := fileOf(g.t, g.p)
	page := g.some(g.nodes)
	n, ok := rawOf(f[page-1])
	if !ok || len(n.cells) == 0 {
		return
	}
	i := g.s.under(len(n.cells))
	c := &n.cells[i]
	switch g.s.under(10) {
	case 0, 1:
		c.key += g.s.under(9) - 4
	case 2:
		n.cells = slices.Delete(n.cells, i, i+1)
	case 3:
		if n.leaf {
			c.next = g.any()
		} else {
			c.child = g.any()
		}
	case 4:
		if !n.leaf {
			n.right = g.any()
		}
	case 5:
		n.cells = nil
	case 6:
		other := g.any()
		if other > 1 && other <= gardenPages {
			must(g.t, g.p.Put(other, f[page-1]))
		}
	case 7:
		if len(g.chains) > 0 {
			at := g.some(g.chains)
			f[at-1][g.s.under(size)] ^= 1 << g.s.under(8)
			must(g.t, g.p.Put(at, f[at-1]))
		}
	case 8:
		b := n.bytes()
		b[g.s.under(60)] ^= 1 << g.s.under(8)
		must(g.t, g.p.Put(page, b))
		return
	case 9:
		c.key = []int{math.MinInt, math.MaxInt, 0}[g.s.under(3)]
	}
	if b := n.bytes(); len(b) == size {
		must(g.t, g.p.Put(page, b))
	}
}

// wantWords holds a call's error against whether the chapters' words find the tree right.
func (g *garden) wantWords(what string, e api.Errno, right bool) {
	g.t.Helper()
	if right && e != api.OK || !right && e != api.ErrBad {
		g.t.Fatalf("%s: %s, but by the words it is right: %v", what, e, right)
	}
}

// hold asks all that a tree tells; it may be a tree that is none.
func (g *garden) hold(x *tree.Tree) {
	g.t.Helper()
	f := fileOf(g.t, g.p)
	all, sound := f.tree(g.root, bytesToo)
	g.wantWords("Sound", x.Sound(), sound)
	want, right := f.tree(g.root, chainsToo)
	l, e := x.Pages()
	g.wantWords("Pages", e, right)
	if !slices.Equal(l, want.pages) {
		g.t.Fatalf("Pages: %v, want %v", l, want.pages)
	}
	want, right = f.tree(g.root, nodesAlone)
	n, e := x.Len()
	g.wantWords("Len", e, right)
	if n != len(want.keys) {
		g.t.Fatalf("Len: %d, want %d", n, len(want.keys))
	}
	if sound {
		wantTree(g.t, g.p, x, all.values)
	}
}

// reads asks for what is there at keys, each of which may be told as bad, but not otherwise than it is where the tree is sound up to there.
func (g *garden) reads(x *tree.Tree) {
	g.t.Helper()
	for _, f := range faces() {
		for _, k := range []int{math.MinInt, -90, -5, 0, 5, 31, 1 << 52, math.MaxInt} {
			if f.writes {
				continue
			}
			if e, zero := f.call(x, k); e != api.OK && (e != api.ErrBad || !zero) {
				g.t.Fatalf("%s(%d): %s, zero: %v", f.name, k, e, zero)
			}
		}
	}
}

// writes changes something, and undoes it.
func (g *garden) writes(x *tree.Tree, sound bool) {
	g.t.Helper()
	m := marked(g.t, g.p)
	ahead := lookAt(g.t, g.p)
	for _, k := range []int{math.MinInt, -5, 0, 31, math.MaxInt} {
		for _, f := range faces() {
			if !f.writes {
				continue
			}
			e, zero := f.call(x, k)
			if e != api.OK && (e != api.ErrBad || !zero || sound) {
				g.t.Fatalf("%s(%d): %s, zero: %v", f.name, k, e, zero)
			}
			if sound && f.name != "Drop" {
				wantSound(g.t, g.p, x)
			}
			must(g.t, g.p.Undo(m))
			if f.name == "Drop" && e == api.OK {
				x = openedTree(g.t, g.h, g.root)
			}
		}
	}
	if lookAt(g.t, g.p) != ahead {
		g.t.Fatal("what was undone left a trace")
	}
}

// TestTreesThatOthersMade: nodes need not be as calls leave them, if they are as the chapter has them.
func TestTreesThatOthersMade(t *testing.T) {
	t.Parallel()
	for seed := range 150 {
		g := newGarden(t, seed)
		x := openedTree(t, g.h, g.root)
		g.hold(x)
		wantErr(t, "Sound", x.Sound(), api.OK)
		g.writes(x, true)
		x = openedTree(t, g.h, g.root)
		was := wantSound(t, g.p, x)
		all, keys := was.values, was.keys
		others := g.pages
		for i, k := range mixed(seed, keys) {
			if i%3 == 0 {
				all[k+1] = value(i, g.s.under(200))
				must(t, x.Put(k+1, all[k+1]))
			}
			_, is := all[k]
			wantDeleted(t, x, k, is)
			delete(all, k)
			wantSound(t, g.p, x)
		}
		wantTree(t, g.p, x, all)
		// The pages that were of noughts are not the tree's; all others are, or are free.
		free, e := g.h.All()
		must(t, e)
		pages, e := x.Pages()
		must(t, e)
		owned := slices.Concat(free, pages, others)
		slices.Sort(owned)
		if !slices.Equal(owned, span(2, g.p.Pages())) {
			t.Fatalf("seed %d: pages were lost: %v", seed, owned)
		}
	}
}

// TestTreesThatWereSpoilt: by the words they are right, or not; and the calls say the same.
func TestTreesThatWereSpoilt(t *testing.T) {
	t.Parallel()
	bad := 0
	for seed := range 1500 {
		g := newGarden(t, seed)
		for range 1 + g.s.under(2) {
			g.spoil()
		}
		x, e := tree.Open(g.h, g.root)
		_, is := rawOf(fileOf(t, g.p)[g.root-1])
		g.wantWords("Open", e, is)
		if e != api.OK {
			continue
		}
		g.hold(x)
		g.reads(x)
		sound := x.Sound() == api.OK
		if !sound {
			bad++
		}
		g.writes(x, sound)
		if t.Failed() {
			t.Fatalf("seed %d", seed)
		}
	}
	if bad < 500 || bad > 1400 {
		t.Errorf("%d of 1500 trees are spoilt", bad)
	}
}

// FuzzPages: whatever pages have, all calls end, and tell what the words tell.
func FuzzPages(f *testing.F) {
	f.Add(1, []byte{})
	f.Add(2, []byte{1, 0, 1, 2, 2, 3})
	f.Add(3, []byte{5, 3, 255, 7, 7, 7, 9, 1, 1})
	f.Fuzz(func(t *testing.T, seed int, changes []byte) {
		g := newGarden(t, seed)
		all := fileOf(t, g.p)
		for i := 0; i+2 < len(changes); i += 3 {
			page := g.nodes[int(changes[i])%len(g.nodes)]
			all[page-1][int(changes[i+1])] ^= changes[i+2]
			must(t, g.p.Put(page, all[page-1]))
		}
		x, e := tree.Open(g.h, g.root)
		_, is := rawOf(all[g.root-1])
		g.wantWords("Open", e, is)
		if e == api.OK {
			g.hold(x)
			g.reads(x)
			g.writes(x, x.Sound() == api.OK)
		}
	})
}
