package cell_test

import (
	"bytes"
	"math"
	"slices"
	"testing"

	"hachure/cell"
)

// noPages are numbers that no page has; four bytes of some of them are those of one that a page has.
var noPages = []int{math.MinInt, -1 << 32, -1<<32 + 1, -most, -1, 0, most + 1, 1 << 31, 1<<32 - 1, 1 << 32, 1<<32 + 1, math.MaxInt}

// noLengths are numbers of bytes that no value has.
var noLengths = []int{math.MinInt, -1 << 32, -1<<32 + 3, -97, -1, payload + 1, 1 << 31, 1 << 32, 1<<32 + 3, math.MaxInt}

type named struct {
	what string
	node cell.Node
}

// badNodes are nodes with one thing wrong each, all of them short enough for a page.
func badNodes() []named {
	out := []named{
		{"a zero node: no leaf, without Right", cell.Node{}},
		{"keys that are the same", leaf(held(3, 0, 0), held(3, 0, 0))},
		{"keys that fall", leaf(held(3, 0, 0), held(2, 0, 0))},
		{"keys that fall as far as may be", leaf(held(math.MaxInt, 0, 0), held(math.MinInt, 0, 0))},
		{"the last keys are the same", leaf(held(-3, 0, 0), held(0, 0, 0), held(8, 1, 0), held(8, 2, 0))},
		{"a key in the middle falls", above(1, led(1, 2), led(5, 2), led(4, 2), led(6, 2))},
		{"keys of children are the same", above(1, led(1, 2), led(1, 3))},
		{"Next of a value that is here whole", leaf(cell.Cell{Length: 2, Local: filled(2), Next: 5})},
		{"Next of an empty value", leaf(cell.Cell{Next: 5})},
		{"Next below 0 of a value that is here whole", leaf(cell.Cell{Length: 96, Local: filled(96), Next: -1})},
		{"Local beside Length 0", leaf(cell.Cell{Local: filled(1)})},
		{"no Local", leaf(cell.Cell{Length: 1})},
		{"no Local, but Next", leaf(cell.Cell{Length: 1, Next: 5})},
		{"Local a byte short", leaf(cell.Cell{Length: 96, Local: filled(95)})},
		{"Local a byte short, with Next", leaf(cell.Cell{Length: 96, Local: filled(95), Next: 5})},
		{"Local a byte long", leaf(cell.Cell{Length: 95, Local: filled(96)})},
		{"Local of 32 where 96 are asked", leaf(cell.Cell{Length: 96, Local: filled(32), Next: 5})},
		{"Local of 97, all of them", leaf(cell.Cell{Length: 97, Local: filled(97)})},
		{"Local of 96 where 32 are asked", leaf(cell.Cell{Length: 97, Local: filled(96), Next: 5})},
		{"Local of 31 where 32 are asked", leaf(cell.Cell{Length: 97, Local: filled(31), Next: 5})},
		{"Local of 33 where 32 are asked", leaf(cell.Cell{Length: payload, Local: filled(33), Next: 5})},
		{"a Child in a leaf's last cell", leaf(held(1, 0, 0), cell.Cell{Key: 2, Child: 1})},
		{"a Length beside a Child", above(1, cell.Cell{Child: 2, Length: 1})},
		{"a Length below 0 beside a Child", above(1, cell.Cell{Child: 2, Length: -1})},
		{"Local beside a Child", above(1, cell.Cell{Child: 2, Local: filled(1)})},
		{"a whole value beside a Child", above(1, cell.Cell{Child: 2, Length: 3, Local: filled(3)})},
		{"Next beside a Child", above(1, cell.Cell{Child: 2, Next: 3})},
		{"Next below 0 beside a Child", above(1, cell.Cell{Child: 2, Next: -3})},
		{"a leaf's cell in another node", above(1, led(1, 2), held(2, 3, 0))},
		{"a Child of 0 in the last cell", above(1, led(1, 2), led(2, 0))},
	}
	for _, page := range noPages {
		out = append(out,
			named{"Right of no page", above(page)},
			named{"Right of no page beside a child", above(page, led(1, 2))},
			named{"a Child of no page", above(1, led(1, page))},
			named{"Next of no page", leaf(held(1, 97, page))},
			named{"Next of no page, of the longest value", leaf(held(1, payload, page))})
	}
	for _, n := range append([]int{1, most}, noPages...) {
		if n != 0 {
			out = append(out,
				named{"a leaf with Right", cell.Node{Leaf: true, Right: n}},
				named{"a leaf of one with Right", cell.Node{Leaf: true, Right: n, Cells: []cell.Cell{held(1, 1, 0)}}},
				named{"a leaf with a Child", leaf(cell.Cell{Child: n})})
		}
	}
	for _, length := range noLengths {
		out = append(out,
			named{"a Length that may not be", leaf(cell.Cell{Length: length})},
			named{"a Length that may not be, with Next", leaf(cell.Cell{Length: length, Next: 5})},
			named{"a Length that may not be, with Local", leaf(cell.Cell{Length: length, Local: filled(32), Next: 5})},
			named{"a Length that may not be, with Local alone", leaf(cell.Cell{Length: length, Local: filled(3)})})
	}
	return out
}

func TestNotGood(t *testing.T) {
	for _, c := range badNodes() {
		if cell.Good(c.node) {
			t.Errorf("%s: Good: %s", c.what, show(c.node))
		}
		if !cell.Fits(c.node) {
			t.Errorf("%s: does not fit: %s", c.what, show(c.node))
		}
		if b := cell.Bytes(c.node); len(b) != 0 {
			t.Errorf("%s: Bytes of %s: %v", c.what, show(c.node), b)
		}
	}
	// Neither good, nor does it fit.
	if b := cell.Bytes(cell.Node{Leaf: true, Right: 1, Cells: fullLeaf(1).Cells}); len(b) != 0 {
		t.Errorf("Bytes of a node with two things wrong: %v", b)
	}
}

type namedPage struct {
	what string
	page []byte
}

// longer is n as a Var that has a byte more than it need have.
func longer(n uint64) []byte {
	return append([]byte{128}, spelt(n)...)
}

// badPages are bytes that are no page.
func badPages() []namedPage {
	good := cell.Bytes(leaf(held(1, 2, 0)))
	goodAbove := cell.Bytes(above(3, led(1, 2)))
	key, none := spelt(2), spelt(0)
	value := filled(32)
	out := []namedPage{
		{"nil", nil},
		{"nothing", []byte{}},
		{"a byte", []byte{1}},
		{"the cells alone", good[:11]},
		{"a byte short", good[:pageSize-1]},
		{"a byte long", append(slices.Clone(good), 0)},
		{"two pages", append(slices.Clone(good), good...)},
		{"noughts", make([]byte, pageSize)},
		{"all bytes 255", bytes.Repeat([]byte{255}, pageSize)},
		{"a first byte of 0", rawPage(0, 0, 0)},
		{"a first byte of 3", rawPage(3, 0, 0)},
		{"a first byte of 0, of children", rawPage(0, 1, 3, four(2), key)},
		{"a first byte of 3, of children", rawPage(3, 1, 3, four(2), key)},
		{"a first byte of 3, of values", rawPage(3, 1, 0, key, spelt(1), []byte{7})},
		{"a first byte of 129", rawPage(129, 0, 0)},
		{"a leaf with Right", rawPage(1, 0, 1)},
		{"a leaf of one with Right", rawPage(1, 1, 1<<24, key, none)},
		{"no leaf, without Right", rawPage(2, 0, 0)},
		{"Right beyond all pages", rawPage(2, 0, most+1)},
		{"Right of 2^32 - 1", rawPage(2, 0, 1<<32-1)},
		{"Right of 2^31", rawPage(2, 0, 1<<31)},
		{"a Child of 0", rawPage(2, 1, 3, four(0), key)},
		{"a Child beyond all pages", rawPage(2, 1, 3, four(most+1), key)},
		{"a Child of 2^32 - 1", rawPage(2, 1, 3, four(1<<32-1), key)},
		{"Next of 0", rawPage(1, 1, 0, key, spelt(97), value, four(0))},
		{"Next beyond all pages", rawPage(1, 1, 0, key, spelt(97), value, four(most+1))},
		{"Next of 2^32 - 1", rawPage(1, 1, 0, key, spelt(97), value, four(1<<32-1))},
		{"Next behind a value that is here whole", rawPage(1, 1, 0, key, spelt(3), filled(3), four(9))},
		{"a value that is here whole, and ought not", rawPage(1, 1, 0, key, spelt(97), filled(97))},
		{"a value that goes on, and ought not", rawPage(1, 1, 0, key, spelt(96), value, four(9), filled(96))},
		{"a Length beyond all", rawPage(1, 1, 0, key, spelt(payload+1), value, four(9))},
		{"a Length of 2^64 - 1", rawPage(1, 1, 0, key, spelt(math.MaxUint64), value, four(9))},
		{"a Length of 2^64 - 1 without more", rawPage(1, 1, 0, key, spelt(math.MaxUint64))},
		{"a Length of 2^63", rawPage(1, 1, 0, key, spelt(1<<63), value, four(9))},
		{"a Length of 2^32", rawPage(1, 1, 0, key, spelt(1<<32), value, four(9))},
		{"keys that are the same", rawPage(1, 2, 0, key, none, key, none)},
		{"keys that fall", rawPage(1, 2, 0, spelt(2), none, spelt(1), none)},
		{"keys of children that fall", rawPage(2, 2, 3, four(2), spelt(2), four(2), spelt(0))},
		{"keys of children that are the same", rawPage(2, 2, 3, four(2), none, four(2), none)},
		{"a key's Var that is too long", rawPage(1, 1, 0, longer(2), none)},
		{"a key's Var of 0 that is too long", rawPage(1, 1, 0, longer(0), none)},
		{"a key's Var that is too long by bytes", rawPage(1, 1, 0, []byte{128, 128, 128, 5}, none)},
		{"a key's Var of nine bytes that need be eight", rawPage(1, 1, 0, []byte{128, 191, 255, 255, 255, 255, 255, 255, 255}, none)},
		{"a Length's Var that is too long", rawPage(1, 1, 0, key, longer(2), filled(2))},
		{"a Length's Var of 0 that is too long", rawPage(1, 1, 0, key, longer(0))},
		{"the last key's Var is too long", rawPage(1, 2, 0, key, none, longer(4), none)},
		{"a Child's key's Var that is too long", rawPage(2, 1, 3, four(2), longer(2))},
		{"a Child's key's Var of 0 that is too long", rawPage(2, 1, 3, four(2), longer(0))},
		{"a byte right behind a leaf's cells", rawPage(1, 1, 0, key, none, []byte{1})},
		{"a byte right behind a leaf without cells", rawPage(1, 0, 0, []byte{1})},
		{"a byte right behind a child", rawPage(2, 1, 3, four(2), key, []byte{1})},
		{"a cell more than are counted", rawPage(1, 1, 0, key, none, spelt(4), none)},
		{"a child more than are counted", rawPage(2, 1, 3, four(2), key, four(2), spelt(4))},
		{"cells, and none counted", rawPage(1, 0, 0, key, spelt(2), filled(2))},
		{"a cell fewer than are counted", rawPage(1, 3, 0, spelt(1), none, key, none)},
		{"a child fewer than are counted", rawPage(2, 2, 3, four(2), key)},
		{"a count in the other order", rawPage(1, 256, 0, key, none)},
	}
	for _, count := range []int{253, 505, 506, 512, 513, 32768, 65535} {
		out = append(out,
			namedPage{"more cells than there are bytes", rawPage(1, count, 0)},
			namedPage{"more children than there are bytes", rawPage(2, count, 1)},
			namedPage{"more full cells than there are bytes", rawPage(1, count, 0, filled(pageSize))},
			namedPage{"more children's bytes than there are", rawPage(2, count, 1, filled(pageSize))})
	}
	for at := 11; at < pageSize; at += 31 {
		b := slices.Clone(good)
		b[at] = 128
		out = append(out, namedPage{"a byte behind a leaf's cells", b})
	}
	for _, page := range [][]byte{good, goodAbove} {
		b := slices.Clone(page)
		b[pageSize-1] = 1
		out = append(out, namedPage{"a last byte that is not 0", b})
	}
	return append(out, cutPages()...)
}

// cutPages are nodes that a page is too short for, as far as they go on it.
func cutPages() []namedPage {
	var out []namedPage
	for _, n := range []cell.Node{fullLeaf(1), fullLeaf(60), spilt(1), spilt(5), manyKeys(1), manyChildren(1)} {
		out = append(out, namedPage{"cells that the page cuts off", rawNode(n)})
	}
	// The page ends ahead of a last cell's first byte, of its second, and so on.
	for room := range 39 {
		n := leaf(append(heldOf(pageSize-headSize-room), held(60, 300, 9))...)
		out = append(out, namedPage{"a last cell that the page cuts off", rawNode(n)})
	}
	for room := range 13 {
		n := above(3, append(ledOf(pageSize-headSize-room), led(math.MaxInt, 79))...)
		out = append(out, namedPage{"a last child that the page cuts off", rawNode(n)})
	}
	return out
}

func TestParseRefuses(t *testing.T) {
	for _, c := range badPages() {
		wantBad(t, c.what, c.page)
	}
	// A page's pieces are none.
	for _, n := range []cell.Node{leaf(), above(1), fullLeaf(0), manyChildren(0)} {
		b := cell.Bytes(n)
		for size := range len(b) {
			wantBad(t, "a piece of a page", b[:size])
		}
		wantNode(t, "the whole page", b, n)
	}
}

// R3: memory.

func TestArgumentsStay(t *testing.T) {
	for _, n := range append(goodNodes(), fullLeaf(1), above(0, led(3, 1), led(2, 1))) {
		// Room behind the ends of the lists is the caller's, too.
		room := append(slices.Clone(n.Cells), held(77, 5, 0))
		n.Cells = room[:len(n.Cells)]
		for i := range n.Cells {
			local := append(bytes.Clone(n.Cells[i].Local), 99)
			n.Cells[i].Local = local[:len(local)-1]
		}
		all := cell.Node{Leaf: n.Leaf, Right: n.Right, Cells: room}
		was := deep(all)
		cell.Bytes(n)
		cell.Size(n)
		cell.Good(n)
		cell.Fits(n)
		cell.Find(n, 3)
		cell.Child(n, 3)
		if !same(all, was) {
			t.Fatalf("a node was changed: %s, was %s", show(all), show(was))
		}
		for i := range n.Cells {
			if local := n.Cells[i].Local; local[: len(local)+1 : len(local)+1][len(local)] != 99 {
				t.Fatalf("what lies behind a value's end was changed")
			}
		}
	}
	for _, c := range append(badPages(), namedPage{"a good one", rawNode(spilt(0))}) {
		was := bytes.Clone(c.page)
		cell.Parse(c.page)
		if !bytes.Equal(c.page, was) {
			t.Fatalf("%s: Parse changed its bytes", c.what)
		}
	}
}

func TestAnswersAreNew(t *testing.T) {
	n := leaf(held(1, 5, 0), held(2, 0, 0), held(3, 97, 8), held(4, 96, 0))
	b := cell.Bytes(n)
	page := bytes.Clone(b)
	want := deep(n)
	m, _ := cell.Parse(b)
	other, _ := cell.Parse(b)
	// Changing what was handed in, or one answer, all its room too, changes no other one.
	for i := range n.Cells {
		clear(n.Cells[i].Local[:cap(n.Cells[i].Local)])
	}
	if !bytes.Equal(b, page) {
		t.Errorf("Bytes shares memory with its node")
	}
	again := cell.Bytes(m)
	clear(b[:cap(b)])
	if !same(m, want) || !bytes.Equal(again, page) {
		t.Errorf("Parse, or Bytes, shares memory with other bytes")
	}
	for i := range m.Cells {
		local := m.Cells[i].Local[:cap(m.Cells[i].Local)]
		was := bytes.Clone(local)
		clear(local)
		for j, c := range m.Cells {
			if j != i && !same(leaf(c), leaf(want.Cells[j])) {
				t.Errorf("values %d and %d share memory", i, j)
			}
		}
		copy(local, was)
	}
	clear(m.Cells[:cap(m.Cells)])
	if !same(other, want) {
		t.Errorf("two answers of Parse share memory")
	}
}

// R1: no call panics at zero values and at numbers at their ends.
func TestEnds(t *testing.T) {
	ends := []int{math.MinInt, -1, 0, 1, math.MaxInt}
	for _, a := range ends {
		for _, b := range ends {
			for _, isLeaf := range []bool{true, false} {
				n := cell.Node{Leaf: isLeaf, Right: a, Cells: []cell.Cell{{Key: b, Child: a, Length: b, Next: a}, {Key: a, Child: b, Length: a, Local: filled(700), Next: b}}}
				cell.Good(n)
				cell.Find(n, b)
				cell.Child(n, b)
				if size := cell.Size(n); size < headSize {
					t.Errorf("Size of %s: %d", show(n), size)
				}
				if page := cell.Bytes(n); len(page) != 0 {
					t.Errorf("Bytes of %s: %v", show(n), page)
				}
			}
		}
	}
}
