package cell_test

import (
	"bytes"
	"encoding/binary"
	"fmt"
	"math"
	"math/big"
	"slices"
	"testing"

	"hachure/api"
	"hachure/cell"
)

// Numbers of the chapter and of the document, on their own.
const (
	pageSize = 512
	headSize = 7
	most     = 4000  // pages
	payload  = 20000 // bytes of a value
)

// edges are whole numbers at which Vars of their Zig grow longer, those at the ends, and some between.
func edges() []int {
	out := []int{math.MinInt, math.MinInt + 1, -300, -5, -2, -1, 0, 1, 2, 5, 300, math.MaxInt - 1, math.MaxInt}
	for bit := 6; bit < 63; bit++ {
		n := 1 << bit
		out = append(out, -n-1, -n, -n+1, n-1, n, n+1)
	}
	slices.Sort(out)
	return slices.Compact(out)
}

// zigged is Zig by the chapter's words, in numbers that have no end.
func zigged(n int) uint64 {
	z := new(big.Int).Mul(big.NewInt(int64(n)), big.NewInt(2))
	if n < 0 {
		z.Sub(z.Neg(z), big.NewInt(1))
	}
	if !z.IsUint64() {
		panic("Zig is beyond 64 bits")
	}
	return z.Uint64()
}

// spelt is n as a Var, from chapter 2's words.
func spelt(n uint64) []byte {
	if n >= 1<<56 {
		out := []byte{byte(n)}
		for n >>= 8; len(out) < 9; n >>= 7 {
			out = append([]byte{byte(n) | 128}, out...)
		}
		return out
	}
	out := []byte{byte(n & 127)}
	for n >>= 7; n > 0; n >>= 7 {
		out = append([]byte{byte(n) | 128}, out...)
	}
	return out
}

func four(n int) []byte {
	return binary.BigEndian.AppendUint32(nil, uint32(n))
}

// rawPage is a page by the chapter's words, be it right or not; pieces that are too long are cut off.
func rawPage(mark byte, count int, right int, pieces ...[]byte) []byte {
	b := binary.BigEndian.AppendUint16([]byte{mark}, uint16(count))
	b = append(b, four(right)...)
	b = append(b, slices.Concat(pieces...)...)
	return append(b, make([]byte, pageSize)...)[:pageSize]
}

// rawNode is the page of a good node that fits.
func rawNode(n cell.Node) []byte {
	var pieces [][]byte
	for _, c := range n.Cells {
		pieces = append(pieces, rawCell(n.Leaf, c))
	}
	if n.Leaf {
		return rawPage(1, len(n.Cells), 0, pieces...)
	}
	return rawPage(2, len(n.Cells), n.Right, pieces...)
}

// rawCell is a good cell's bytes.
func rawCell(leaf bool, c cell.Cell) []byte {
	if !leaf {
		return append(four(c.Child), spelt(zigged(c.Key))...)
	}
	b := append(spelt(zigged(c.Key)), spelt(uint64(c.Length))...)
	if c.Length <= 96 {
		return append(b, c.Local...)
	}
	return slices.Concat(b, c.Local[:32], four(c.Next))
}

// rawSize is how many bytes a good node has ahead of the noughts.
func rawSize(n cell.Node) int {
	size := headSize
	for _, c := range n.Cells {
		size += len(rawCell(n.Leaf, c))
	}
	return size
}

// filled is count bytes none of which is 0.
func filled(count int) []byte {
	out := make([]byte, count)
	for i := range out {
		out[i] = byte(i%255 + 1)
	}
	return out
}

// held is a good cell of a leaf.
func held(key, length, next int) cell.Cell {
	if length > 96 {
		return cell.Cell{Key: key, Length: length, Local: filled(32), Next: next}
	}
	return cell.Cell{Key: key, Length: length, Local: filled(length)}
}

func leaf(cells ...cell.Cell) cell.Node {
	return cell.Node{Leaf: true, Cells: cells}
}

// led is a good cell of a node that is no leaf.
func led(key, child int) cell.Cell {
	return cell.Cell{Key: key, Child: child}
}

func above(right int, cells ...cell.Cell) cell.Node {
	return cell.Node{Right: right, Cells: cells}
}

// from are so many cells with keys from one on, each made by the function.
func from(first, count int, one func(key int) cell.Cell) []cell.Cell {
	var out []cell.Cell
	for i := range count {
		out = append(out, one(first+i))
	}
	return out
}

// fullLeaf is a leaf of six cells whose last one makes it just fit; with more bytes in that one it does not.
func fullLeaf(more int) cell.Node {
	n := leaf(from(1, 5, func(key int) cell.Cell { return held(key, 96, 0) })...)
	n.Cells = append(n.Cells, held(6, 13+more, 0))
	return n
}

// spilt is a leaf that just fits, most of whose cells go on elsewhere.
func spilt(more int) cell.Node {
	// Twelve cells of 40 bytes, three of them for a Length from 16384 on, leave 25.
	n := leaf(from(-6, 12, func(key int) cell.Cell { return held(key, 16390+key, key+7) })...)
	n.Cells = append(n.Cells, held(6, 23+more, 0))
	return n
}

// manyKeys is a leaf of as many cells as a page can have, without values.
func manyKeys(more int) cell.Node {
	// The keys from -64 to 63 have one byte, all others of these two.
	return leaf(from(-64, 211+more, func(key int) cell.Cell { return held(key, 0, 0) })...)
}

// manyChildren is a node of as many children as a page can have, and one more for Right.
func manyChildren(more int) cell.Node {
	return above(most, from(-37, 101+more, func(key int) cell.Cell { return led(key, 1+(key+37)%most) })...)
}

// heldOf are cells of a leaf that have so many bytes, 2 or more.
func heldOf(size int) []cell.Cell {
	var out []cell.Cell
	for size > 0 {
		length := min(size-2, 96)
		if size-2-length == 1 {
			length--
		}
		out = append(out, held(len(out), length, 0))
		size -= 2 + length
	}
	return out
}

// ledOf are cells of another node that have so many bytes, 5 or more.
func ledOf(size int) []cell.Cell {
	out := from(-64, size/5-1, func(key int) cell.Cell { return led(key, 9) })
	// A number of 1 + 7n bits has n + 1 bytes, and so has its Zig.
	return append(out, led(max(63, 1<<(7*(size%5))), 9))
}

// goodNodes are good ones that fit, those at the edges first.
func goodNodes() []cell.Node {
	out := []cell.Node{
		leaf(), above(1), above(most), above(256), above(2571),
		leaf(held(1, 2, 0)), leaf(held(0, 0, 0)), leaf(held(0, 1, 0)),
		leaf(held(0, 96, 0)), leaf(held(0, 97, 1)), leaf(held(0, 97, most)), leaf(held(0, 95, 0)),
		leaf(held(0, payload, 256)), leaf(held(-1, payload-1, 3)), leaf(held(4, 128, 9)), leaf(held(4, 127, 9)),
		leaf(held(math.MinInt, 0, 0), held(math.MaxInt, 0, 0)),
		leaf(held(math.MinInt, 97, 1), held(-1, 0, 0), held(0, 96, 0), held(1, 97, most), held(math.MaxInt, payload, 77)),
		above(1, led(0, most)), above(most, led(-1, 1)), above(2, led(math.MinInt, 3), led(math.MaxInt, 4)),
		above(7, led(-5, 7), led(5, 7)),
		fullLeaf(0), fullLeaf(-1), spilt(0), spilt(-1), manyKeys(0), manyKeys(-1), manyChildren(0), manyChildren(-1),
	}
	for _, key := range edges() {
		out = append(out, leaf(held(key, 3, 0)), above(5, led(key, 6)))
	}
	for length := range 131 {
		out = append(out, leaf(held(9, length, 1+length)))
	}
	return out
}

// dice tells numbers that are the same in each run.
type dice uint64

func (d *dice) roll(sides int) int {
	*d ^= *d << 13
	*d ^= *d >> 7
	*d ^= *d << 17
	return int(uint64(*d) >> 11 % uint64(sides))
}

// rolled is a good node that fits, of any size up to that.
func (d *dice) rolled() cell.Node {
	n := cell.Node{Leaf: d.roll(2) == 0}
	if !n.Leaf {
		n.Right = 1 + d.roll(most)
	}
	all := edges()
	spread := 1 + d.roll(40)
	for key := -d.roll(200); len(n.Cells) < 300; key += 1 + d.roll(spread) {
		c := cell.Cell{Key: key, Child: 1 + d.roll(most)}
		if n.Leaf {
			c = held(key, []int{0, d.roll(8), d.roll(97), 97 + d.roll(payload-96)}[d.roll(4)], 1+d.roll(most))
		}
		n.Cells = append(n.Cells, c)
	}
	if last := &n.Cells[len(n.Cells)-1]; d.roll(3) == 0 {
		last.Key = max(last.Key, all[d.roll(len(all))])
	}
	// The last cells stay, as many as are rolled and fit.
	size, first := headSize, len(n.Cells)
	for range d.roll(len(n.Cells)) {
		size += len(rawCell(n.Leaf, n.Cells[first-1]))
		if size > pageSize {
			break
		}
		first--
	}
	n.Cells = n.Cells[first:]
	return n
}

// same says whether two nodes are; nil and empty lists are the same.
func same(a, b cell.Node) bool {
	return a.Leaf == b.Leaf && a.Right == b.Right && slices.EqualFunc(a.Cells, b.Cells, func(c, d cell.Cell) bool {
		return c.Key == d.Key && c.Child == d.Child && c.Length == d.Length && c.Next == d.Next && bytes.Equal(c.Local, d.Local)
	})
}

// show is a node as a text, its first cells alone.
func show(n cell.Node) string {
	return fmt.Sprint(n.Leaf, n.Right, len(n.Cells), n.Cells[:min(len(n.Cells), 12)])
}

// deep is a copy that shares nothing.
func deep(n cell.Node) cell.Node {
	n.Cells = slices.Clone(n.Cells)
	for i := range n.Cells {
		n.Cells[i].Local = bytes.Clone(n.Cells[i].Local)
	}
	return n
}

// wantBad holds Parse to refusing these bytes, with nothing beside.
func wantBad(t *testing.T, what string, b []byte) {
	t.Helper()
	if n, e := cell.Parse(b); e != api.ErrBad || !same(n, cell.Node{}) {
		t.Errorf("%s: Parse %s, %v, want nothing, bad", what, show(n), e)
	}
}

// wantNode holds Parse to telling that node.
func wantNode(t *testing.T, what string, b []byte, want cell.Node) {
	t.Helper()
	if n, e := cell.Parse(b); e != api.OK || !same(n, want) {
		t.Errorf("%s: Parse %s, %v, want %s", what, show(n), e, show(want))
	}
}
