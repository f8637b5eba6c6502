package cell_test

import (
	"bytes"
	"math"
	"testing"

	"hachure/api"
	"hachure/cell"
)

// P9.1

func TestZig(t *testing.T) {
	for n, want := range map[int]uint64{0: 0, -1: 1, 1: 2, -2: 3, 2: 4, 63: 126, -64: 127, 64: 128, math.MaxInt: math.MaxUint64 - 1, math.MinInt: math.MaxUint64} {
		if got := cell.Zig(n); got != want {
			t.Errorf("Zig(%d): %d, want %d", n, got, want)
		}
	}
	for _, n := range edges() {
		if got := cell.Zig(n); got != zigged(n) {
			t.Errorf("Zig(%d): %d, want %d", n, got, zigged(n))
		}
	}
}

func TestZag(t *testing.T) {
	for n, want := range map[uint64]int{0: 0, 1: -1, 2: 1, 3: -2, 4: 2, math.MaxUint64 - 1: math.MaxInt, math.MaxUint64: math.MinInt, 1 << 63: 1 << 62, 1<<63 - 1: -1 << 62} {
		if got := cell.Zag(n); got != want {
			t.Errorf("Zag(%d): %d, want %d", n, got, want)
		}
	}
	for _, n := range edges() {
		if got := cell.Zag(zigged(n)); got != n {
			t.Errorf("Zag(%d): %d, want %d", zigged(n), got, n)
		}
	}
}

func TestLocal(t *testing.T) {
	if cell.MaxLocal != 96 || cell.MinLocal != 32 {
		t.Errorf("MaxLocal %d, MinLocal %d", cell.MaxLocal, cell.MinLocal)
	}
	for length := -3; length < payload+300; length++ {
		want := length
		switch {
		case length < 0 || length > payload:
			want = 0
		case length > 96:
			want = 32
		}
		if got := cell.Local(length); got != want {
			t.Errorf("Local(%d): %d, want %d", length, got, want)
		}
	}
	for _, length := range []int{math.MinInt, math.MinInt + 1, -1 << 32, -97, 1 << 31, 1 << 32, 1<<32 + 5, math.MaxInt} {
		if got := cell.Local(length); got != 0 {
			t.Errorf("Local(%d): %d, want 0", length, got)
		}
	}
}

// P9.2

func TestExample(t *testing.T) {
	n := leaf(cell.Cell{Key: 1, Length: 2, Local: []byte("ab")})
	want := append([]byte{1, 0, 1, 0, 0, 0, 0, 2, 2, 97, 98}, make([]byte, 501)...)
	if got := cell.Bytes(n); !bytes.Equal(got, want) {
		t.Errorf("Bytes: %v", got)
	}
	if got := cell.Size(n); got != 11 {
		t.Errorf("Size: %d, want 11", got)
	}
	wantNode(t, "the example", want, n)
}

// Pages that are written out, so that they hang on no reckoning of the tests.
func TestPages(t *testing.T) {
	value := filled(32)
	for _, c := range []struct {
		what string
		node cell.Node
		want []byte
	}{
		{"no cells", leaf(), []byte{1, 0, 0, 0, 0, 0, 0}},
		{"no children but Right", above(4000), []byte{2, 0, 0, 0, 0, 15, 160}},
		{"two keys", leaf(held(-1, 1, 0), held(64, 0, 0)), []byte{1, 0, 2, 0, 0, 0, 0, 1, 1, 1, 129, 0, 0}},
		{"two children", above(258, led(-65, 1), led(5, 4000)), []byte{2, 0, 2, 0, 0, 1, 2, 0, 0, 0, 1, 129, 1, 0, 0, 15, 160, 10}},
		{"a value that goes on", leaf(held(0, 97, 258)), append(append([]byte{1, 0, 1, 0, 0, 0, 0, 0, 97}, value...), 0, 0, 1, 2)},
		{"the longest value", leaf(held(-2, 20000, 4000)), append(append([]byte{1, 0, 1, 0, 0, 0, 0, 3, 129, 156, 32}, value...), 0, 0, 15, 160)},
		{"the least key", leaf(held(math.MinInt, 0, 0)), []byte{1, 0, 1, 0, 0, 0, 0, 255, 255, 255, 255, 255, 255, 255, 255, 255, 0}},
	} {
		want := append(c.want, make([]byte, pageSize-len(c.want))...)
		if got := cell.Bytes(c.node); !bytes.Equal(got, want) {
			t.Errorf("%s: Bytes %v, want %v", c.what, got, want)
		}
		if got := cell.Size(c.node); got != len(c.want) {
			t.Errorf("%s: Size %d, want %d", c.what, got, len(c.want))
		}
		wantNode(t, c.what, want, c.node)
	}
}

func TestSize(t *testing.T) {
	for _, n := range goodNodes() {
		if got := cell.Size(n); got != rawSize(n) {
			t.Errorf("Size of %s: %d, want %d", show(n), got, rawSize(n))
		}
	}
	for _, n := range []cell.Node{fullLeaf(1), fullLeaf(50), spilt(1), manyKeys(300), manyChildren(1), manyChildren(9000)} {
		if got := cell.Size(n); got != rawSize(n) {
			t.Errorf("Size of one that does not fit: %d, want %d", got, rawSize(n))
		}
	}
}

// A node's bytes are counted by the fields that P9.2 names, be it good or not.
func TestSizeOfWhatIsNotGood(t *testing.T) {
	for _, c := range []struct {
		what string
		node cell.Node
		want int
	}{
		{"keys that fall", leaf(held(300, 1, 0), held(1, 2, 0)), 7 + 2 + 1 + 1 + 1 + 1 + 2},
		{"a leaf with Right and Child", cell.Node{Leaf: true, Right: 9, Cells: []cell.Cell{{Child: 5}}}, 7 + 2},
		{"no Right, no Child", above(0, led(0, 0)), 7 + 4 + 1},
		{"a node with a value", above(1, cell.Cell{Child: 1, Length: 200, Local: filled(32), Next: 3}), 7 + 4 + 1},
		{"Local that is longer", leaf(cell.Cell{Length: 3, Local: filled(50)}), 7 + 1 + 1 + 50},
		{"Local that is shorter", leaf(cell.Cell{Length: 3, Local: filled(2)}), 7 + 1 + 1 + 2 + 4},
		{"a long value that is here whole", leaf(cell.Cell{Length: 300, Local: filled(300)}), 7 + 1 + 2 + 300},
		{"Next without need", leaf(cell.Cell{Length: 2, Local: filled(2), Next: 9}), 7 + 1 + 1 + 2},
		{"a Length beyond all", leaf(cell.Cell{Length: math.MaxInt}), 7 + 1 + 9 + 4},
	} {
		if got := cell.Size(c.node); got != c.want {
			t.Errorf("%s: Size %d, want %d", c.what, got, c.want)
		}
		if !cell.Fits(c.node) {
			t.Errorf("%s: it does not fit", c.what)
		}
	}
}

// P9.3

func TestGood(t *testing.T) {
	for _, n := range goodNodes() {
		if !cell.Good(n) {
			t.Errorf("not Good: %s", show(n))
		}
	}
	for _, n := range tooLong() {
		if !cell.Good(n) {
			t.Errorf("not Good, as it is too long: %s", show(n))
		}
	}
}

// tooLong are good nodes that do not fit, the first ones by a byte or a cell.
func tooLong() []cell.Node {
	return []cell.Node{fullLeaf(1), spilt(1), manyKeys(1), manyChildren(1), fullLeaf(2), fullLeaf(40), manyKeys(70000), manyChildren(70000)}
}

func TestFits(t *testing.T) {
	for _, n := range []cell.Node{fullLeaf(0), spilt(0), manyKeys(0), manyChildren(0)} {
		if got := cell.Size(n); got != pageSize {
			t.Errorf("Size: %d, want a whole page", got)
		}
		if !cell.Fits(n) {
			t.Errorf("it just fits, and does not: %s", show(n))
		}
		if got := cell.Bytes(n); !bytes.Equal(got, rawNode(n)) {
			t.Errorf("Bytes of a full node: %v", got)
		}
		wantNode(t, "a full node", rawNode(n), n)
	}
	// A key of two bytes where one of one byte just fits.
	long := manyChildren(0)
	long.Cells[len(long.Cells)-1].Key = 64
	for _, n := range append(tooLong(), long) {
		if cell.Fits(n) {
			t.Errorf("fits, of %d bytes", cell.Size(n))
		}
		if got := cell.Bytes(n); len(got) != 0 {
			t.Errorf("Bytes of one that does not fit: %v", got)
		}
	}
	for _, n := range []cell.Node{fullLeaf(1), spilt(1), long} {
		if got := cell.Size(n); got != pageSize+1 {
			t.Errorf("Size: %d, want a byte more than a page", got)
		}
	}
	if n := leaf(); !cell.Fits(n) {
		t.Errorf("a node without cells does not fit")
	}
}

func TestBytes(t *testing.T) {
	for _, n := range goodNodes() {
		if got := cell.Bytes(n); !bytes.Equal(got, rawNode(n)) {
			t.Errorf("Bytes of %s: %v", show(n), got)
		}
	}
}

func TestParse(t *testing.T) {
	for _, n := range goodNodes() {
		wantNode(t, "a good node", rawNode(n), n)
	}
}

func TestEachSize(t *testing.T) {
	for size := 5; size <= pageSize-headSize; size++ {
		for _, n := range []cell.Node{leaf(heldOf(size)...), above(3, ledOf(size)...)} {
			if got := cell.Size(n); got != headSize+size {
				t.Fatalf("Size of %s: %d, want %d", show(n), got, headSize+size)
			}
			wantNode(t, "cells of so many bytes", rawNode(n), n)
		}
	}
}

// P9.4

// first is what Find tells, place by place.
func first(n cell.Node, key int) (int, bool) {
	for i, c := range n.Cells {
		if !(c.Key < key) {
			return i, c.Key == key
		}
	}
	return len(n.Cells), false
}

// asked are keys to ask a node for: its own, those beside them, and those at the ends.
func asked(n cell.Node) []int {
	out := []int{math.MinInt, math.MinInt + 1, -1, 0, 1, math.MaxInt - 1, math.MaxInt}
	for _, c := range n.Cells {
		out = append(out, c.Key, max(c.Key, math.MinInt+1)-1, min(c.Key, math.MaxInt-1)+1)
	}
	return out
}

func wantPlaces(t *testing.T, n cell.Node) {
	t.Helper()
	for _, key := range asked(n) {
		place, there := first(n, key)
		if at, ok := cell.Find(n, key); at != place || ok != there {
			t.Errorf("Find(%s, %d): %d %v, want %d %v", show(n), key, at, ok, place, there)
		}
		page := n.Right
		if place < len(n.Cells) {
			page = n.Cells[place].Child
		}
		if at, child := cell.Child(n, key); at != place || child != page {
			t.Errorf("Child(%s, %d): %d %d, want %d %d", show(n), key, at, child, place, page)
		}
	}
}

func TestFind(t *testing.T) {
	n := leaf(held(-7, 0, 0), held(3, 1, 0), held(9, 2, 0))
	for _, c := range []struct {
		key, at int
		ok      bool
	}{
		{math.MinInt, 0, false}, {-8, 0, false}, {-7, 0, true}, {-6, 1, false}, {2, 1, false}, {3, 1, true},
		{4, 2, false}, {9, 2, true}, {10, 3, false}, {math.MaxInt, 3, false},
	} {
		if at, ok := cell.Find(n, c.key); at != c.at || ok != c.ok {
			t.Errorf("Find(%d): %d %v, want %d %v", c.key, at, ok, c.at, c.ok)
		}
	}
	for _, n := range []cell.Node{{}, leaf(), above(5)} {
		if at, ok := cell.Find(n, 0); at != 0 || ok {
			t.Errorf("Find in no cells: %d %v", at, ok)
		}
	}
}

func TestChild(t *testing.T) {
	n := above(40, led(-7, 10), led(3, 20), led(9, 30))
	for _, c := range []struct{ key, at, child int }{
		{math.MinInt, 0, 10}, {-8, 0, 10}, {-7, 0, 10}, {-6, 1, 20}, {3, 1, 20},
		{4, 2, 30}, {9, 2, 30}, {10, 3, 40}, {math.MaxInt, 3, 40},
	} {
		if at, child := cell.Child(n, c.key); at != c.at || child != c.child {
			t.Errorf("Child(%d): %d %d, want %d %d", c.key, at, child, c.at, c.child)
		}
	}
	if at, child := cell.Child(above(5), 0); at != 0 || child != 5 {
		t.Errorf("Child of no cells: %d %d, want 0 5", at, child)
	}
	if at, child := cell.Child(cell.Node{}, 0); at != 0 || child != 0 {
		t.Errorf("Child of a zero node: %d %d", at, child)
	}
	if at, child := cell.Child(leaf(held(4, 2, 0)), 4); at != 0 || child != 0 {
		t.Errorf("Child of a leaf: %d %d", at, child)
	}
}

func TestPlaces(t *testing.T) {
	for _, n := range goodNodes() {
		wantPlaces(t, n)
	}
	d := dice(4)
	for range 60 {
		wantPlaces(t, d.rolled())
	}
}

// The first place counts, whatever order the keys are in.
func TestPlacesOfWhatIsNotGood(t *testing.T) {
	for _, n := range []cell.Node{
		above(9, led(9, 1), led(3, 2), led(-7, 3)),
		above(9, led(3, 1), led(3, 2), led(3, 3)),
		above(9, led(0, 1), led(5, 2), led(-5, 3), led(5, 4), led(8, 5), led(1, 6), led(2, 7)),
		above(-3, led(math.MaxInt, -1), led(math.MinInt, math.MinInt)),
		{Leaf: true, Right: 7, Cells: []cell.Cell{led(1, 4), led(0, 3)}},
	} {
		wantPlaces(t, n)
	}
}

// P9.5

func TestThereAndBack(t *testing.T) {
	d := dice(9)
	nodes := goodNodes()
	for range 3000 {
		nodes = append(nodes, d.rolled())
	}
	sizes := map[bool]int{}
	for _, n := range nodes {
		if !cell.Good(n) || !cell.Fits(n) || cell.Size(n) != rawSize(n) {
			t.Fatalf("not good, or does not fit: %s", show(n))
		}
		b := cell.Bytes(n)
		if !bytes.Equal(b, rawNode(n)) {
			t.Fatalf("Bytes of %s: %v", show(n), b)
		}
		wantNode(t, "there and back", b, n)
		sizes[n.Leaf] = max(sizes[n.Leaf], len(n.Cells))
	}
	if sizes[true] < 100 || sizes[false] < 80 {
		t.Errorf("the nodes are small: %v", sizes)
	}
}

// wantPageOrBad holds bytes to being no page, or one that leads back to them.
func wantPageOrBad(t *testing.T, b []byte) {
	t.Helper()
	n, e := cell.Parse(b)
	if e != api.OK {
		wantBad(t, "no page", b)
		return
	}
	if !cell.Good(n) || !cell.Fits(n) || !bytes.Equal(cell.Bytes(n), b) || !bytes.Equal(rawNode(n), b) {
		t.Fatalf("%v: Parse %s, whose bytes are others", b, show(n))
	}
}

// Each bit of some pages is turned: what comes of it is no page, or another node's.
func TestTurnedBits(t *testing.T) {
	for _, n := range []cell.Node{leaf(), above(1), fullLeaf(0), fullLeaf(-9), spilt(0), spilt(-3), manyKeys(0), manyKeys(-5), manyChildren(0), manyChildren(-2), leaf(held(-5, 97, 1), held(math.MaxInt, 3, 0)), above(3, led(math.MinInt, 5))} {
		b := cell.Bytes(n)
		for bit := range len(b) * 8 {
			b[bit/8] ^= 1 << (bit % 8)
			wantPageOrBad(t, b)
			if m, e := cell.Parse(b); e == api.OK && same(m, n) {
				t.Errorf("bit %d is turned, and the node is the same: %s", bit, show(n))
			}
			b[bit/8] ^= 1 << (bit % 8)
		}
	}
}

func TestRolledBytes(t *testing.T) {
	d := dice(77)
	pages := 0
	for range 4000 {
		b := make([]byte, pageSize)
		for i := range headSize + d.roll(24) {
			b[i] = byte(d.roll(4))
		}
		b[0], b[1], b[2] = byte(1+d.roll(2)), 0, byte(d.roll(5))
		copy(b[3:], []byte{0, 0, 0, byte(int(b[0]-1) * 7)})
		wantPageOrBad(t, b)
		if _, e := cell.Parse(b); e == api.OK {
			pages++
		}
	}
	if pages < 50 {
		t.Errorf("only %d of the bytes are pages", pages)
	}
}

func FuzzParse(f *testing.F) {
	for _, n := range goodNodes() {
		f.Add(rawNode(n))
	}
	for _, c := range badPages() {
		f.Add(c.page)
	}
	f.Fuzz(func(t *testing.T, b []byte) { wantPageOrBad(t, b) })
}
