package walk_test

import (
	"bytes"
	"maps"
	"math"
	"slices"
	"testing"

	"hachure/api"
	"hachure/cell"
	"hachure/disk"
	"hachure/free"
	"hachure/pager"
	"hachure/tree"
	"hachure/walk"
)

// Numbers by the document's words.
const (
	size    = 512
	payload = 20000
	most    = 4000
	roomy   = 32768
)

func must(t *testing.T, e api.Errno) {
	t.Helper()
	if e != api.OK {
		t.Fatalf("an error: %s", e)
	}
}

func wantErr(t *testing.T, what string, got, want api.Errno) {
	t.Helper()
	if got != want {
		t.Errorf("%s: %s, want %s", what, got, want)
	}
}

// made is an empty tree in a transaction; its root is page 2.
func made(t *testing.T) (*pager.Pager, *free.Heap, *tree.Tree) {
	t.Helper()
	return madeOn(t, disk.New(roomy))
}

func madeOn(t *testing.T, d *disk.Disk) (*pager.Pager, *free.Heap, *tree.Tree) {
	t.Helper()
	p, e := pager.Open(d, 8)
	must(t, e)
	must(t, p.Begin())
	h, e := free.Make(p)
	must(t, e)
	x, e := tree.Make(h)
	must(t, e)
	return p, h, x
}

// filled is a tree of these keys, each with the value of its own, in a transaction.
func filled(t *testing.T, keys ...int) (*pager.Pager, *free.Heap, *tree.Tree) {
	t.Helper()
	p, h, x := made(t)
	for _, k := range keys {
		must(t, x.Put(k, own(k)))
	}
	return p, h, x
}

// tall is a tree of these keys that has several leaves.
func tall(t *testing.T, keys ...int) (*pager.Pager, *free.Heap, *tree.Tree) {
	t.Helper()
	p, h, x := filled(t, keys...)
	if n, e := x.Height(); n < 2 || e != api.OK {
		t.Fatalf("Height: %d, %s", n, e)
	}
	return p, h, x
}

// over is a cursor that goes over the tree.
func over(t *testing.T, x *tree.Tree) *walk.Cursor {
	t.Helper()
	c := walk.New(x)
	if c == nil {
		t.Fatal("New: nil")
	}
	wantNowhere(t, c)
	return c
}

// at is a cursor that stands at a key of the tree.
func at(t *testing.T, x *tree.Tree, key int) *walk.Cursor {
	t.Helper()
	c := over(t, x)
	wantTo(t, "Seek", seek(key), c, key)
	return c
}

// own is the value of a key, by which it is known.
func own(key int) []byte {
	return value(key, 20+int(uint(key)%77))
}

// value is n bytes that are the same in each run.
func value(seed, n int) []byte {
	out := make([]byte, n)
	s := dice{uint64(seed)*2654435761 + 88172645463325253}
	for i := range out {
		out[i] = byte(s.under(256))
	}
	return out
}

// dice tells numbers that are the same in each run.
type dice struct{ seed uint64 }

func (s *dice) under(n int) int {
	s.seed ^= s.seed << 13
	s.seed ^= s.seed >> 7
	s.seed ^= s.seed << 17
	return int(s.seed>>33) % n
}

// thrown is a dice that was shaken, since seeds that are near tell the same at first.
func thrown(seed int) *dice {
	s := &dice{uint64(seed)*2654435761 + 1}
	for range 10 {
		s.under(2)
	}
	return s
}

// each is every so many number from low to high.
func each(step, low, high int) []int {
	var out []int
	for n := low; n <= high; n += step {
		out = append(out, n)
	}
	return out
}

// mixed is l in an order that is the same in each run.
func mixed(seed int, l []int) []int {
	s := thrown(seed)
	out := slices.Clone(l)
	for i := range out {
		j := i + s.under(len(out)-i)
		out[i], out[j] = out[j], out[i]
	}
	return out
}

// falling is l from its end on.
func falling(l []int) []int {
	out := slices.Clone(l)
	slices.Reverse(out)
	return out
}

// move is a call that moves a cursor.
type move func(c *walk.Cursor) (bool, api.Errno)

func seek(key int) move {
	return func(c *walk.Cursor) (bool, api.Errno) { return c.Seek(key) }
}

// moves are all of them, by name; Seek is for that key.
func moves(key int) map[string]move {
	return map[string]move{
		"First": (*walk.Cursor).First,
		"Last":  (*walk.Cursor).Last,
		"Seek":  seek(key),
		"Next":  (*walk.Cursor).Next,
		"Prev":  (*walk.Cursor).Prev,
	}
}

// wantAt asks that the cursor stand at that key.
func wantAt(t *testing.T, c *walk.Cursor, want int) {
	t.Helper()
	if k, ok := c.Key(); k != want || !ok {
		t.Fatalf("Key: %d, %v, want %d", k, ok, want)
	}
}

// wantNowhere asks that it stand at none, so that it has nothing to tell or to delete.
func wantNowhere(t *testing.T, c *walk.Cursor) {
	t.Helper()
	if k, ok := c.Key(); k != 0 || ok {
		t.Fatalf("Key: %d, %v, want none", k, ok)
	}
	if b, e := c.Value(); len(b) > 0 || e != api.ErrState {
		t.Fatalf("Value, nowhere: %d bytes, %s", len(b), e)
	}
	if e := c.Delete(); e != api.ErrState {
		t.Fatalf("Delete, nowhere: %s", e)
	}
}

// wantTo moves the cursor, and asks that it stand at that key.
func wantTo(t *testing.T, what string, by move, c *walk.Cursor, want int) {
	t.Helper()
	if ok, e := by(c); !ok || e != api.OK {
		t.Fatalf("%s: %v, %s, want key %d", what, ok, e, want)
	}
	wantAt(t, c, want)
}

// wantEnd moves the cursor, and asks that it be nowhere.
func wantEnd(t *testing.T, what string, by move, c *walk.Cursor) {
	t.Helper()
	if ok, e := by(c); ok || e != api.OK {
		k, _ := c.Key()
		t.Fatalf("%s: %v (key %d), %s, want none", what, ok, k, e)
	}
	wantNowhere(t, c)
}

// wantMove moves the cursor, and asks that it stand at the one of the rising keys that has that place; nowhere, if none has.
func wantMove(t *testing.T, what string, by move, c *walk.Cursor, keys []int, place int) {
	t.Helper()
	if place < 0 || place >= len(keys) {
		wantEnd(t, what, by, c)
		return
	}
	wantTo(t, what, by, c, keys[place])
}

// wantValue asks for the value of the key at which the cursor stands.
func wantValue(t *testing.T, c *walk.Cursor, want []byte) {
	t.Helper()
	if b, e := c.Value(); !bytes.Equal(b, want) || e != api.OK {
		t.Fatalf("Value: %d bytes, or other ones, %s", len(b), e)
	}
}

// wantGone asks that the key at which the cursor stands be there no more.
func wantGone(t *testing.T, c *walk.Cursor, key int) {
	t.Helper()
	wantAt(t, c, key)
	if b, e := c.Value(); len(b) > 0 || e != api.ErrNone {
		t.Fatalf("Value: %d bytes, %s", len(b), e)
	}
	wantErr(t, "Delete", c.Delete(), api.ErrNone)
	wantAt(t, c, key)
}

// wantRow goes over the whole tree in both directions, and asks for just these keys.
func wantRow(t *testing.T, x *tree.Tree, keys []int) {
	t.Helper()
	c := over(t, x)
	wantMove(t, "First", (*walk.Cursor).First, c, keys, 0)
	for i := range keys {
		wantMove(t, "Next", (*walk.Cursor).Next, c, keys, i+1)
	}
	wantEnd(t, "Next, nowhere", (*walk.Cursor).Next, c)
	wantMove(t, "Last", (*walk.Cursor).Last, c, keys, len(keys)-1)
	for i := range keys {
		wantMove(t, "Prev", (*walk.Cursor).Prev, c, keys, len(keys)-2-i)
	}
	wantEnd(t, "Prev, nowhere", (*walk.Cursor).Prev, c)
}

// told is what a range tells, in its order.
func told(x *tree.Tree, from, to int) []api.Pair {
	var out []api.Pair
	for k, v := range walk.Range(x, from, to) {
		out = append(out, api.Pair{Key: k, Value: v})
	}
	return out
}

// keysOf is the keys of pairs.
func keysOf(l []api.Pair) []int {
	var out []int
	for _, p := range l {
		out = append(out, p.Key)
	}
	return out
}

// owned is the pairs of these keys, each with the value of its own.
func owned(keys ...int) []api.Pair {
	var out []api.Pair
	for _, k := range keys {
		out = append(out, api.Pair{Key: k, Value: own(k)})
	}
	return out
}

func same(a, b []api.Pair) bool {
	return slices.EqualFunc(a, b, func(p, q api.Pair) bool {
		return p.Key == q.Key && bytes.Equal(p.Value, q.Value)
	})
}

// wantRange asks a range for just these pairs.
func wantRange(t *testing.T, x *tree.Tree, from, to int, want []api.Pair) {
	t.Helper()
	if got := told(x, from, to); !same(got, want) {
		t.Fatalf("Range from %d to %d: keys %v, or other values; want %v", from, to, keysOf(got), keysOf(want))
	}
}

// wantPairs asks for just these pairs.
func wantPairs(t *testing.T, x *tree.Tree, most int, want []api.Pair) {
	t.Helper()
	if got, e := walk.Pairs(x, most); !same(got, want) || e != api.OK {
		t.Fatalf("Pairs of %d: keys %v, or other values, %s; want %v", most, keysOf(got), e, keysOf(want))
	}
}

// wantNoPairs asks for that error.
func wantNoPairs(t *testing.T, what string, x *tree.Tree, most int, want api.Errno) {
	t.Helper()
	if l, e := walk.Pairs(x, most); len(l) > 0 || e != want {
		t.Errorf("%s: Pairs of %d: %d, %s, want %s", what, most, len(l), e, want)
	}
}

// wantTree asks that the tree be right, and have just these pairs.
func wantTree(t *testing.T, x *tree.Tree, want map[int][]byte) {
	t.Helper()
	must(t, x.Sound())
	if n, e := x.Len(); n != len(want) || e != api.OK {
		t.Fatalf("Len: %d, %s, want %d", n, e, len(want))
	}
	for k, v := range want {
		if b, ok, e := x.Get(k); !bytes.Equal(b, v) || !ok || e != api.OK {
			t.Fatalf("Get(%d): %d bytes, or other ones, %v, %s", k, len(b), ok, e)
		}
	}
}

// owns is a map of these keys, each with the value of its own.
func owns(keys ...int) map[int][]byte {
	out := map[int][]byte{}
	for _, k := range keys {
		out[k] = own(k)
	}
	return out
}

// rising is the map's pairs in the order of their keys.
func rising(m map[int][]byte) []api.Pair {
	var out []api.Pair
	for _, k := range slices.Sorted(maps.Keys(m)) {
		out = append(out, api.Pair{Key: k, Value: m[k]})
	}
	return out
}

// wantUnchanged does something that changes no page.
func wantUnchanged(t *testing.T, p *pager.Pager, done func()) {
	t.Helper()
	ahead, changed := pagesOf(t, p), p.Changed()
	done()
	if !bytes.Equal(pagesOf(t, p), ahead) || !slices.Equal(p.Changed(), changed) {
		t.Error("something has changed")
	}
}

// pagesOf is all pages, one behind the other.
func pagesOf(t *testing.T, p *pager.Pager) []byte {
	t.Helper()
	var out []byte
	for n := range p.Pages() {
		b, e := p.Get(n + 1)
		must(t, e)
		out = append(out, b...)
	}
	return out
}

// leavesOf is the leaves' pages below a root that stands right above them, from the left.
func leavesOf(t *testing.T, p *pager.Pager, x *tree.Tree) []int {
	t.Helper()
	if n, e := x.Height(); n != 2 || e != api.OK {
		t.Fatalf("Height: %d, %s", n, e)
	}
	var out []int
	root := nodeAt(t, p, x.Root())
	for _, c := range root.Cells {
		out = append(out, c.Child)
	}
	return append(out, root.Right)
}

// nodeAt is the node on a page.
func nodeAt(t *testing.T, p *pager.Pager, page int) cell.Node {
	t.Helper()
	b, e := p.Get(page)
	must(t, e)
	n, e := cell.Parse(b)
	must(t, e)
	return n
}

// keysAt is the keys of a leaf.
func keysAt(t *testing.T, p *pager.Pager, page int) []int {
	t.Helper()
	var out []int
	for _, c := range nodeAt(t, p, page).Cells {
		out = append(out, c.Key)
	}
	return out
}

// spoil makes a page one that may not be.
func spoil(t *testing.T, p *pager.Pager, page int) {
	t.Helper()
	must(t, p.Put(page, bytes.Repeat([]byte{0xEE}, size)))
}

// crowded is a tree on a heap without room, in which the Delete of key 0 needs a page: its leaf shares cells with the last one, and the key between them is longer than the one that was there.
func crowded(t *testing.T) (*pager.Pager, *free.Heap, *tree.Tree) {
	t.Helper()
	p, h, x := made(t)
	for p.Pages() < most {
		_, e := p.Grow()
		must(t, e)
	}
	put := func(page int, n cell.Node) {
		t.Helper()
		must(t, p.Put(page, cell.Bytes(n)))
	}
	leaf := func(page, key int, lengths ...int) {
		t.Helper()
		n := cell.Node{Leaf: true}
		for i, length := range lengths {
			n.Cells = append(n.Cells, cell.Cell{Key: key + i, Length: length, Local: value(i+1, length)})
		}
		put(page, n)
	}
	root := cell.Node{Right: 42}
	for i := range 38 {
		leaf(3+i, math.MinInt+i*100, 2)
		root.Cells = append(root.Cells, cell.Cell{Child: 3 + i, Key: math.MinInt + i*100})
	}
	root.Cells = append(root.Cells, cell.Cell{Child: 41, Key: 0})
	leaf(41, -1, 90, 90)
	leaf(42, math.MaxInt-9, 96, 96, 96, 96)
	put(x.Root(), root)
	must(t, x.Sound())
	return p, h, x
}

// ends are numbers at the ends of all.
func ends() []int {
	return []int{math.MinInt, math.MinInt + 1, -1, 0, 1, math.MaxInt - 1, math.MaxInt}
}
