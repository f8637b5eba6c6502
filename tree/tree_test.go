package tree_test

import (
	"bytes"
	"fmt"
	"math"
	"slices"
	"testing"

	"hachure/api"
	"hachure/disk"
	"hachure/free"
	"hachure/pager"
	"hachure/tree"
)

func TestTheExample(t *testing.T) {
	p, _, x := made(t)
	must(t, x.Put(1, []byte("a")))
	must(t, x.Put(2, []byte("b")))
	wantDeleted(t, x, 1, true)
	wantNext(t, x, -5, 2, true)
	wantTree(t, p, x, map[int][]byte{2: []byte("b")})
}

func TestAnEmptyTree(t *testing.T) {
	p, h, x := made(t)
	if x.Root() != 2 || p.Pages() != 2 {
		t.Errorf("the root is page %d of %d", x.Root(), p.Pages())
	}
	page := make([]byte, size)
	page[0] = 1
	if b, e := p.Get(2); e != api.OK || !bytes.Equal(b, page) {
		t.Errorf("the root's page: %v, %s", b, e)
	}
	for range 2 {
		wantTree(t, p, x, nil)
		wantHeight(t, x, 1)
		wantPages(t, x, 2)
		for _, k := range []int{math.MinInt, -1, 0, 1, math.MaxInt} {
			wantNoValue(t, x, k)
			wantNext(t, x, k, 0, false)
			wantPrev(t, x, k, 0, false)
			wantUnchanged(t, p, func() { wantDeleted(t, x, k, false) })
		}
		x = openedTree(t, h, 2)
	}
}

// TestMakeTakesAPage: of those that are free, if there are any.
func TestMakeTakesAPage(t *testing.T) {
	p, h := heaped(t, 6)
	for n := 2; n <= 6; n++ {
		must(t, p.Put(n, bytes.Repeat([]byte{0xEE}, size)))
	}
	must(t, h.Give(4))
	must(t, h.Give(5))
	for _, want := range []int{5, 4, 7} {
		x, e := tree.Make(h)
		must(t, e)
		if x.Root() != want {
			t.Fatalf("the root is page %d, want %d", x.Root(), want)
		}
		wantTree(t, p, x, nil)
		wantPages(t, x, want)
	}
	wantFree(t, h)
}

func TestOneKey(t *testing.T) {
	for _, k := range []int{math.MinInt, math.MinInt + 1, -65, -64, -1, 0, 1, 63, 64, math.MaxInt - 1, math.MaxInt} {
		p, _, x := made(t)
		must(t, x.Put(k, []byte("ab")))
		if b, e := p.Get(2); e != api.OK || !bytes.Equal(b, leafOf(short(k, "ab")).bytes()) {
			t.Errorf("key %d: the root's page: %v, %s", k, b, e)
		}
		wantTree(t, p, x, map[int][]byte{k: []byte("ab")})
		if k > math.MinInt {
			wantNoValue(t, x, k-1)
			wantNext(t, x, k-1, k, true)
			wantPrev(t, x, k-1, 0, false)
			wantDeleted(t, x, k-1, false)
		}
		if k < math.MaxInt {
			wantNoValue(t, x, k+1)
			wantPrev(t, x, k+1, k, true)
			wantNext(t, x, k+1, 0, false)
			wantDeleted(t, x, k+1, false)
		}
		wantDeleted(t, x, k, true)
		wantDeleted(t, x, k, false)
		wantTree(t, p, x, nil)
	}
}

// fullLeaf puts 26 keys that fill one leaf to its last byte.
func fullLeaf(t *testing.T, x *tree.Tree) map[int][]byte {
	t.Helper()
	all := map[int][]byte{}
	for k := range 25 {
		all[k] = value(k, 18)
	}
	all[25] = value(25, 3)
	for _, k := range span(0, 25) {
		must(t, x.Put(k, all[k]))
	}
	return all
}

func TestALeafThatIsFull(t *testing.T) {
	p, h, x := made(t)
	all := fullLeaf(t, x)
	got := wantTree(t, p, x, all)
	if got.height != 1 || p.Pages() != 2 {
		t.Fatalf("height %d, %d pages", got.height, p.Pages())
	}
	if b, _ := p.Get(2); b[size-1] == 0 {
		t.Fatal("the leaf is not full")
	}
	// As long a value in place of another one needs no more room.
	all[7] = value(99, 18)
	must(t, x.Put(7, all[7]))
	wantTree(t, p, x, all)
	wantHeight(t, x, 1)
	// One more key does, also one without a byte.
	for _, k := range []int{-1, 12, 26} {
		m := marked(t, p)
		if k == 12 {
			wantDeleted(t, x, 12, true)
			must(t, x.Put(30, value(12, 18)))
			wantHeight(t, x, 1)
			all[30] = value(12, 18)
		}
		must(t, x.Put(k, nil))
		all[k] = nil
		wantTree(t, p, x, all)
		wantHeight(t, x, 2)
		wantPages(t, x, 2, 3, 4)
		wantOwned(t, p, h, x)
		if x.Root() != 2 {
			t.Errorf("the root is page %d", x.Root())
		}
		must(t, p.Undo(m))
		delete(all, k)
		delete(all, 30)
		if k == 12 {
			all[12] = value(12, 18)
		}
		wantTree(t, p, x, all)
	}
	// And a value that is longer by a byte.
	all[3] = value(3, 19)
	must(t, x.Put(3, all[3]))
	wantTree(t, p, x, all)
	wantHeight(t, x, 2)
}

// TestAFullNodeAboveLeaves: one more leaf below it, and the tree is higher.
func TestAFullNodeAboveLeaves(t *testing.T) {
	var nodes []rawNode
	l := []int{}
	for i := range 38 {
		l = append(l, 3+i, math.MinInt+i*100)
		nodes = append(nodes, leafAt(math.MinInt+i*100))
	}
	l = append(l, 3+38)
	last := leafOf()
	for i := range 5 {
		last.cells = append(last.cells, short(i, string(value(i, 90))))
	}
	nodes = append(nodes, last)
	root := aboveOf(l...)
	if n := len(bytes.TrimRight(root.bytes(), "\x00")); n+13 <= size || len(root.bytes()) != size {
		t.Fatalf("the root has %d bytes", n)
	}
	p, h, x := planted(t, append([]rawNode{root}, nodes...)...)
	all := wantSound(t, p, x).values
	must(t, x.Put(9, value(9, 96)))
	all[9] = value(9, 96)
	got := wantTree(t, p, x, all)
	wantOwned(t, p, h, x)
	// The separating keys have nine bytes but for the last one, which has one.
	if got.height != 2 {
		t.Fatalf("height %d", got.height)
	}
	// One that has nine, too, does not fit any more.
	for i := range 5 {
		k := math.MaxInt - 5 + i
		must(t, x.Put(k, value(i, 96)))
		all[k] = value(i, 96)
	}
	got = wantTree(t, p, x, all)
	wantOwned(t, p, h, x)
	if got.height != 3 || x.Root() != 2 {
		t.Fatalf("height %d, root %d", got.height, x.Root())
	}
}

// orders are ways to put or delete these keys.
func orders(seed int, l []int) map[string][]int {
	return map[string][]int{
		"rising":  l,
		"falling": falling(l),
		"mixed":   mixed(seed, l),
	}
}

// scaled is l with each number as many times as far from 0.
func scaled(l []int, by int) []int {
	var out []int
	for _, n := range l {
		out = append(out, n*by)
	}
	return out
}

// TestKeysInAllOrders puts keys in each order, and deletes them in each, with short and long keys and values.
func TestKeysInAllOrders(t *testing.T) {
	t.Parallel()
	for _, by := range []int{1, math.MaxInt / 300} {
		for _, length := range []int{0, 20, 96, 97} {
			keys := scaled(span(-150, 150), by)
			for name, put := range orders(1, keys) {
				for gone, del := range orders(2, keys) {
					t.Run(fmt.Sprintf("%d bytes, by %d, put %s, deleted %s", length, by, name, gone), func(t *testing.T) {
						putAndDelete(t, put, del, length)
					})
				}
			}
		}
	}
}

func putAndDelete(t *testing.T, put, del []int, length int) {
	t.Helper()
	p, h, x := made(t)
	all := map[int][]byte{}
	height := 1
	for i, k := range put {
		all[k] = value(i, length)
		must(t, x.Put(k, all[k]))
		n, e := x.Height()
		if n < height || n > height+1 || e != api.OK {
			t.Fatalf("Height: %d behind %d, %s", n, height, e)
		}
		height = n
		if i%30 == 0 {
			wantSound(t, p, x)
		}
	}
	wantTree(t, p, x, all)
	wantOwned(t, p, h, x)
	wantFree(t, h)
	for i, k := range del {
		wantDeleted(t, x, k, true)
		delete(all, k)
		n, e := x.Height()
		// A key between two nodes may be longer than the one that was there: then a node above may be cut.
		if n < height-1 || n > height+1 || e != api.OK {
			t.Fatalf("Height: %d behind %d, %s", n, height, e)
		}
		height = n
		if i%30 == 0 {
			wantDeleted(t, x, k, false)
			wantSound(t, p, x)
			wantOwned(t, p, h, x)
		}
		if i == 200 {
			wantTree(t, p, x, all)
		}
	}
	wantTree(t, p, x, nil)
	wantHeight(t, x, 1)
	wantPages(t, x, 2)
	wantOwned(t, p, h, x)
	if x.Root() != 2 {
		t.Errorf("the root is page %d", x.Root())
	}
	if b, e := p.Get(2); e != api.OK || !bytes.Equal(b, leafOf().bytes()) {
		t.Errorf("the root's page: %v, %s", b, e)
	}
}

// ends are keys at which numbers turn.
func ends() []int {
	out := []int{math.MinInt, math.MaxInt}
	for i := range 63 {
		for _, n := range []int{1<<i - 1, 1 << i, 1<<i + 1} {
			out = append(out, n, -n)
		}
	}
	out = append(out, math.MinInt+1, math.MaxInt-1)
	slices.Sort(out)
	return slices.Compact(out)
}

func TestKeysAtTheirEnds(t *testing.T) {
	for _, length := range []int{0, 60, 96} {
		p, h, x := made(t)
		all := map[int][]byte{}
		for i, k := range mixed(length, ends()) {
			all[k] = value(i, length)
			must(t, x.Put(k, all[k]))
		}
		wantTree(t, p, x, all)
		for _, k := range mixed(length+1, ends()) {
			if k%2 == 0 {
				wantDeleted(t, x, k, true)
				delete(all, k)
			}
		}
		wantTree(t, p, x, all)
		wantOwned(t, p, h, x)
	}
}

// TestValuesOfAllSizes: what stands in the cell, and how many pages a chain has.
func TestValuesOfAllSizes(t *testing.T) {
	sizes := []struct{ length, chain int }{
		{0, 0}, {1, 0}, {31, 0}, {32, 0}, {33, 0}, {95, 0}, {96, 0},
		{97, 1}, {98, 1}, {127, 1}, {128, 1}, {minLocal + room, 1},
		{minLocal + room + 1, 2}, {minLocal + 2*room, 2}, {minLocal + 2*room + 1, 3},
		{payload - 1, 40}, {payload, 40},
	}
	for _, s := range sizes {
		p, h, x := made(t)
		b := value(s.length, s.length)
		must(t, x.Put(-3, b))
		wantTree(t, p, x, map[int][]byte{-3: b})
		wantPages(t, x, span(2, 2+s.chain)...)
		want := rawCell{key: -3, length: s.length, local: b}
		if s.chain > 0 {
			page, _ := rawOf(fileOf(t, p)[1])
			want.local, want.next = b[:minLocal], page.cells[0].next
		}
		if got, _ := p.Get(2); !bytes.Equal(got, leafOf(want).bytes()) {
			t.Errorf("%d bytes: the leaf is %v", s.length, got)
		}
		wantDeleted(t, x, -3, true)
		wantTree(t, p, x, nil)
		wantFree(t, h, span(3, 2+s.chain)...)
	}
}

// TestNoughtsInValues are bytes like others.
func TestNoughtsInValues(t *testing.T) {
	p, _, x := made(t)
	all := map[int][]byte{}
	for i, n := range []int{1, 96, 97, 540, 541, 5000, payload} {
		all[i] = make([]byte, n)
		must(t, x.Put(i, all[i]))
	}
	wantTree(t, p, x, all)
}

// TestReplacedValues: pages that a value does not need any more are free.
func TestReplacedValues(t *testing.T) {
	lengths := []int{0, 5, 96, 97, 540, 541, 2000, 5000, payload}
	for _, a := range lengths {
		for _, b := range lengths {
			p, h, x := made(t)
			must(t, x.Put(1, value(1, 50)))
			must(t, x.Put(7, value(2, a)))
			must(t, x.Put(9, value(3, 700)))
			must(t, x.Put(7, value(4, b)))
			all := map[int][]byte{1: value(1, 50), 7: value(4, b), 9: value(3, 700)}
			got := wantTree(t, p, x, all)
			wantOwned(t, p, h, x)
			had, has := chainOf(a), chainOf(b)
			if n, e := h.Count(); n != max(0, had-has) || e != api.OK {
				t.Errorf("%d bytes, then %d: %d are free, %s", a, b, n, e)
			}
			if len(got.pages) != 1+has+chainOf(700) || p.Pages() != 2+max(had, has)+chainOf(700) {
				t.Errorf("%d bytes, then %d: %d of %d pages", a, b, len(got.pages), p.Pages())
			}
			wantDeleted(t, x, 7, true)
			delete(all, 7)
			wantTree(t, p, x, all)
			if n, e := h.Count(); n != max(had, has) || e != api.OK {
				t.Errorf("%d bytes, then %d, then none: %d are free, %s", a, b, n, e)
			}
		}
	}
}

// chainOf is how many pages a chain of that value has.
func chainOf(length int) int {
	if length <= maxLocal {
		return 0
	}
	return (length - minLocal + room - 1) / room
}

// TestAReplacedValueInATreeOfMany: nodes are cut by longer ones, and joined by shorter ones.
func TestAReplacedValueInATreeOfMany(t *testing.T) {
	p, h, x := made(t)
	all := map[int][]byte{}
	for round, length := range []int{3, 96, 0, 300, 90, 97, 1} {
		for i, k := range mixed(round, span(-100, 100)) {
			all[k] = value(round*1000+i, length)
			must(t, x.Put(k, all[k]))
		}
		wantTree(t, p, x, all)
		wantOwned(t, p, h, x)
	}
}

// TestCellsOfUnlikeSizes: where a leaf is cut hangs on its bytes, not on how many cells they are.
func TestCellsOfUnlikeSizes(t *testing.T) {
	for _, turn := range []int{1, -1} {
		for _, few := range []int{4, 5, 20} {
			p, h, x := made(t)
			all := map[int][]byte{}
			for i := range 120 {
				all[i*turn] = nil
				must(t, x.Put(i*turn, nil))
			}
			for i := range few {
				k := (119 - i) * turn
				all[k] = value(i, 96)
				must(t, x.Put(k, all[k]))
				wantSound(t, p, x)
			}
			wantTree(t, p, x, all)
			wantOwned(t, p, h, x)
		}
	}
}

// TestNextAndPrev: at keys, between them, and at both ends, in trees of all heights.
func TestNextAndPrev(t *testing.T) {
	for _, count := range []int{1, 2, 5, 30, 200, 900} {
		_, _, x := made(t)
		for _, i := range mixed(count, span(1, count)) {
			must(t, x.Put(i*3, value(i, 60)))
		}
		for k := -2; k <= count*3+4; k++ {
			above, below := max(3, (k/3+1)*3), min(count*3, (k-1)/3*3)
			if k < 3 {
				above = 3
			}
			if above > count*3 {
				wantNext(t, x, k, 0, false)
			} else {
				wantNext(t, x, k, above, true)
			}
			if k <= 3 {
				wantPrev(t, x, k, 0, false)
			} else {
				wantPrev(t, x, k, below, true)
			}
		}
		wantNext(t, x, math.MinInt, 3, true)
		wantPrev(t, x, math.MinInt, 0, false)
		wantNext(t, x, math.MaxInt, 0, false)
		wantPrev(t, x, math.MaxInt, count*3, true)
	}
}

// TestNextWhereKeysWere: a key between two nodes may be one that is no more.
func TestNextWhereKeysWere(t *testing.T) {
	p, _, x := made(t)
	for k := range 400 {
		must(t, x.Put(k, value(k, 40)))
	}
	left := map[int][]byte{}
	for k := range 400 {
		if k%7 == 3 {
			left[k] = value(k, 40)
		} else {
			wantDeleted(t, x, k, true)
		}
	}
	wantTree(t, p, x, left)
	for k := -1; k <= 401; k++ {
		above, below := 3, 395
		for above <= k {
			above += 7
		}
		for below >= k {
			below -= 7
		}
		if above > 395 {
			above = 0
		}
		if below < 3 {
			below = 0
		}
		wantNext(t, x, k, above, above > 0)
		wantPrev(t, x, k, below, below > 0)
	}
}

// crammed puts keys and values as long as may stand in nodes, till there is no page any more: the keys, rising.
func crammed(t *testing.T, p *pager.Pager, x *tree.Tree) []int {
	t.Helper()
	var keys []int
	for k := math.MaxInt; ; k -= 1000 {
		m := 0
		// A mark keeps all that a transaction has changed: it is not asked for where it is not needed.
		if p.Pages() > most-10 {
			m = marked(t, p)
		}
		e := x.Put(k, value(k, maxLocal))
		if e == api.ErrFull {
			must(t, p.Undo(m))
			return falling(keys)
		}
		must(t, e)
		keys = append(keys, k)
	}
}

// TestAsHighAsItGets: a tree that has all pages, and that loses them again.
func TestAsHighAsItGets(t *testing.T) {
	t.Parallel()
	p, h, x := made(t)
	keys := crammed(t, p, x)
	got := wantSound(t, p, x)
	if !slices.Equal(got.keys, keys) {
		t.Fatalf("%d keys, want %d", len(got.keys), len(keys))
	}
	height := got.height
	if height < 4 || height > highest {
		t.Fatalf("height %d of %d keys", height, len(keys))
	}
	wantHeight(t, x, height)
	wantLen(t, x, len(keys))
	wantRow(t, x, keys)
	wantOwned(t, p, h, x)
	must(t, p.Commit())
	must(t, p.Begin())
	for i, k := range mixed(5, keys) {
		wantDeleted(t, x, k, true)
		if i%1000 == 0 {
			n := wantSound(t, p, x).height
			if n > height {
				t.Fatalf("height %d behind %d", n, height)
			}
			height = n
			wantOwned(t, p, h, x)
		}
	}
	wantTree(t, p, x, nil)
	wantHeight(t, x, 1)
	wantOwned(t, p, h, x)
}

// TestATreeOfThinNodes is as high as any can be: each node that is no leaf has just two children.
func TestATreeOfThinNodes(t *testing.T) {
	t.Parallel()
	const height = 11
	nodes := make([]rawNode, 1<<height-1)
	// The node at i has those at 2i + 1 and 2i + 2 below it, on pages 2i + 3 and 2i + 4.
	var grow func(i, low, high int)
	grow = func(i, low, high int) {
		if high-low == 1 {
			nodes[i] = leafAt(low)
			return
		}
		middle := (low + high) / 2
		nodes[i] = aboveOf(2*i+3, middle-1, 2*i+4)
		grow(2*i+1, low, middle)
		grow(2*i+2, middle, high)
	}
	grow(0, 0, 1<<(height-1))
	p, h, x := planted(t, nodes...)
	wantHeight(t, x, height)
	all := wantSound(t, p, x).values
	wantLen(t, x, 1<<(height-1))
	wantRow(t, x, span(0, 1<<(height-1)-1))
	wantPages(t, x, span(2, 1<<height)...)
	m := marked(t, p)
	must(t, x.Put(500, value(1, 3000)))
	all[500] = value(1, 3000)
	wantSound(t, p, x)
	wantOwned(t, p, h, x)
	must(t, p.Undo(m))
	for i, k := range mixed(3, span(0, 1<<(height-1)-1)) {
		wantDeleted(t, x, k, true)
		if i < 20 || i%200 == 0 {
			wantSound(t, p, x)
			wantOwned(t, p, h, x)
		}
	}
	wantTree(t, p, x, nil)
}

func TestOpenedAnew(t *testing.T) {
	d := disk.New(roomy)
	p, h, x := madeOn(t, d)
	all := map[int][]byte{}
	for i, k := range mixed(4, span(-90, 90)) {
		all[k] = value(i, i*7%400)
		must(t, x.Put(k, all[k]))
	}
	// Another one of the same root tells the same, at once.
	y := openedTree(t, h, x.Root())
	wantTree(t, p, y, all)
	must(t, y.Put(1000, []byte("new")))
	all[1000] = []byte("new")
	wantTree(t, p, x, all)
	must(t, p.Commit())
	wantTree(t, p, x, all)
	for range 2 {
		p, h, x = reopened(t, d, 2)
		wantTree(t, p, x, all)
		wantOwned(t, p, h, x)
		must(t, p.Begin())
		wantDeleted(t, x, -90, len(all) == 182)
		delete(all, -90)
		must(t, p.Commit())
	}
}

func TestReadingIsForNoTransaction(t *testing.T) {
	d := disk.New(roomy)
	p, _, x := madeOn(t, d)
	all := map[int][]byte{}
	for i := range 100 {
		all[i] = value(i, i*11)
		must(t, x.Put(i, all[i]))
	}
	must(t, p.Commit())
	p, _, x = reopened(t, d, 2)
	wantUnchanged(t, p, func() { wantTree(t, p, x, all) })
	must(t, p.Begin())
	wantUnchanged(t, p, func() { wantTree(t, p, x, all) })
	must(t, p.Commit())
	if p.Commits() != 0 {
		t.Errorf("%d commits", p.Commits())
	}
}

func TestUndoAndRollback(t *testing.T) {
	p, h, x := made(t)
	all := map[int][]byte{}
	for i := range 120 {
		all[i*5] = value(i, i*9%700)
		must(t, x.Put(i*5, all[i*5]))
	}
	m := marked(t, p)
	wantUnchanged(t, p, func() {
		for i := range 120 {
			must(t, x.Put(i*5+1, value(i, 200)))
			if i%3 > 0 {
				wantDeleted(t, x, i*5, true)
			} else {
				must(t, x.Put(i*5, nil))
			}
		}
		wantSound(t, p, x)
		must(t, p.Undo(m))
	})
	wantTree(t, p, x, all)
	must(t, p.Commit())
	must(t, p.Begin())
	for i := range 119 {
		wantDeleted(t, x, i*5, true)
	}
	wantHeight(t, x, 1)
	must(t, p.Rollback())
	wantTree(t, p, x, all)
	wantOwned(t, p, h, x)
	must(t, p.Begin())
	must(t, x.Drop())
	must(t, p.Rollback())
	wantErr(t, "Sound of a tree that was dropped", x.Sound(), api.ErrMade)
	wantTree(t, p, openedTree(t, h, 2), all)
}

// TestNoMarkIsMade: they are the caller's.
func TestNoMarkIsMade(t *testing.T) {
	p, _, x := made(t)
	for i := range 100 {
		must(t, x.Put(i, value(i, 1000)))
	}
	for i := range 100 {
		wantDeleted(t, x, i, true)
	}
	must(t, x.Drop())
	if m := marked(t, p); m != 1 {
		t.Errorf("mark %d", m)
	}
}

func TestOtherPagesStay(t *testing.T) {
	p, h := heaped(t, 30)
	mine := func(n int) []byte { return bytes.Repeat([]byte{0xA5, byte(n)}, size/2) }
	for n := 2; n <= 30; n++ {
		must(t, p.Put(n, mine(n)))
	}
	for i := range 60 {
		must(t, h.Set(i, -i))
	}
	for n := 10; n < 20; n++ {
		must(t, h.Give(n))
	}
	x, e := tree.Make(h)
	must(t, e)
	for i := range 300 {
		must(t, x.Put(i, value(i, i*5%600)))
	}
	for i := range 300 {
		wantDeleted(t, x, i*7%300, true)
	}
	must(t, x.Drop())
	for n := 2; n <= 30; n++ {
		b, e := p.Get(n)
		if must(t, e); (n < 10 || n >= 20) && !bytes.Equal(b, mine(n)) {
			t.Errorf("page %d has changed", n)
		}
	}
	for i := range 60 {
		if n, e := h.Word(i); n != -i || e != api.OK {
			t.Errorf("word %d: %d, %s", i, n, e)
		}
	}
	wantFree(t, h, append(span(10, 19), span(31, p.Pages())...)...)
}

func TestTreesBesideOneAnother(t *testing.T) {
	p, h := heaped(t, 1)
	var trees []*tree.Tree
	var all []map[int][]byte
	for range 4 {
		x, e := tree.Make(h)
		must(t, e)
		trees = append(trees, x)
		all = append(all, map[int][]byte{})
	}
	s := dice{12345}
	for i := range 1500 {
		n, k := s.under(4), s.under(150)
		if s.under(5) < 3 {
			all[n][k] = value(i, s.under(150)*s.under(8))
			must(t, trees[n].Put(k, all[n][k]))
		} else {
			_, is := all[n][k]
			wantDeleted(t, trees[n], k, is)
			delete(all[n], k)
		}
	}
	for n, x := range trees {
		wantTree(t, p, x, all[n])
	}
	wantOwned(t, p, h, trees...)
	must(t, trees[1].Drop())
	wantOwned(t, p, h, trees[0], trees[2], trees[3])
	for n, x := range trees {
		if n != 1 {
			wantTree(t, p, x, all[n])
		}
	}
}

func TestDrop(t *testing.T) {
	for _, count := range []int{0, 1, 30, 300} {
		p, h, x := made(t)
		for i := range count {
			must(t, x.Put(i, value(i, i*13%1500)))
		}
		pages, e := x.Pages()
		must(t, e)
		must(t, x.Drop())
		wantFree(t, h, pages...)
		wantOwned(t, p, h)
		if x.Root() != 0 {
			t.Errorf("the root is page %d", x.Root())
		}
		// The pages are there for another one.
		y, e := tree.Make(h)
		must(t, e)
		for i := range count {
			must(t, y.Put(i, value(i, i*13%1500)))
		}
		wantOwned(t, p, h, y)
		wantFree(t, h)
	}
}

// TestMemory: what is handed in is neither changed nor kept, what is told is the caller's.
func TestMemory(t *testing.T) {
	for _, n := range []int{1, 96, 97, 3000} {
		p, _, x := made(t)
		all := value(1, n+200)
		b := all[100 : 100+n]
		mine := bytes.Clone(b)
		must(t, x.Put(5, b))
		if !bytes.Equal(all, value(1, n+200)) {
			t.Error("what was handed in, or what lies beside it, was changed")
		}
		clear(all)
		wantValue(t, x, 5, mine)
		wantUnchanged(t, p, func() {
			got, _, e := x.Get(5)
			must(t, e)
			again, _, e := x.Get(5)
			must(t, e)
			clear(got[:cap(got)])
			if !bytes.Equal(again, mine) {
				t.Error("two answers share memory")
			}
			l, e := x.Pages()
			must(t, e)
			clear(l[:cap(l)])
		})
		wantTree(t, p, x, map[int][]byte{5: mine})
	}
}

// TestTheSameCallsTellTheSame: pages, too.
func TestTheSameCallsTellTheSame(t *testing.T) {
	var looks []look
	for range 2 {
		p, _, x := made(t)
		for i, k := range mixed(8, span(0, 300)) {
			must(t, x.Put(k, value(i, k*3)))
		}
		for _, k := range mixed(9, span(0, 250)) {
			wantDeleted(t, x, k, true)
		}
		looks = append(looks, lookAt(t, p))
	}
	if looks[0] != looks[1] {
		t.Error("the same calls led to other pages")
	}
}

// TestADiskThatIsFull: the commit is refused, the tree stays with the transaction.
func TestADiskThatIsFull(t *testing.T) {
	d := disk.New(60)
	p, h, x := madeOn(t, d)
	must(t, x.Put(1, []byte("one")))
	must(t, p.Commit())
	must(t, p.Begin())
	must(t, x.Put(2, value(2, payload)))
	wantErr(t, "Commit", p.Commit(), api.ErrFull)
	wantTree(t, p, x, map[int][]byte{1: []byte("one"), 2: value(2, payload)})
	wantDeleted(t, x, 2, true)
	must(t, h.Trim(2))
	must(t, p.Commit())
	p, _, x = reopened(t, d, 2)
	wantTree(t, p, x, map[int][]byte{1: []byte("one")})
}

// TestARootIsKept by a heap's word, as others do it.
func TestARootIsKept(t *testing.T) {
	d := disk.New(roomy)
	p, h, x := madeOn(t, d)
	must(t, h.Set(3, x.Root()))
	for i := range 200 {
		must(t, x.Put(i, value(i, 90)))
	}
	must(t, p.Commit())
	h, e := free.Open(opened(t, d))
	must(t, e)
	root, e := h.Word(3)
	must(t, e)
	wantLen(t, openedTree(t, h, root), 200)
}
