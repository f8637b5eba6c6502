package cell

import (
	"math"

	"hachure/api"
	"hachure/octet"
)

// What a page begins with.
const (
	leafMark  = 1
	aboveMark = 2
)

// How many bytes numbers have that are no Vars, and all that stands ahead of the cells.
const (
	markSize  = 1
	countSize = 2
	linkSize  = 4
	headSize  = markSize + countSize + linkSize
)

// page is the bytes of a page.
type page [api.PageSize]byte

// size is how many bytes the cell has in a page.
func (c Cell) size(leaf bool) int {
	key := octet.Size(Zig(c.Key))
	if !leaf {
		return linkSize + key
	}
	size := key + octet.Size(uint64(c.Length)) + len(c.Local)
	if c.spills() {
		size += linkSize
	}
	return size
}

// writer puts bytes into a page of noughts, one behind the other; the caller knows that there is room.
type writer struct {
	page page
	at   int
}

func (w *writer) bytes(b []byte) {
	w.at += copy(w.page[w.at:], b)
}

func (w *writer) number(n, size int) {
	w.bytes(octet.Put(nil, uint64(n), size, false))
}

func (w *writer) variable(n uint64) {
	w.bytes(octet.Var(nil, n))
}

// written is the node's page; false: it has none.
func written(n Node) (page, bool) {
	if !Good(n) || !Fits(n) {
		return page{}, false
	}
	w := &writer{}
	mark, put := aboveMark, w.above
	if n.Leaf {
		mark, put = leafMark, w.inLeaf
	}
	w.number(mark, markSize)
	w.number(len(n.Cells), countSize)
	w.number(n.Right, linkSize)
	for _, c := range n.Cells {
		put(c)
	}
	return w.page, true
}

// inLeaf puts a leaf's cell.
func (w *writer) inLeaf(c Cell) {
	w.variable(Zig(c.Key))
	w.variable(uint64(c.Length))
	w.bytes(c.Local)
	if c.spills() {
		w.number(c.Next, linkSize)
	}
}

// above puts a cell of a node above the leaves.
func (w *writer) above(c Cell) {
	w.number(c.Child, linkSize)
	w.variable(Zig(c.Key))
}

// reader has the methods of a source by which cells are read.
type reader struct {
	number   func(size int, little bool) uint64
	variable func(most uint64) uint64
	bytes    func(n int) []byte
}

// read is the node that a page tells, up to the first cell that may not be: then it has fewer than the page says.
func read(b []byte) Node {
	s := octet.Read(b)
	r := reader{s.Num, s.Var, s.Bytes}
	n := Node{Leaf: s.Byte() == leafMark}
	next := r.above
	if n.Leaf {
		next = r.inLeaf
	}
	count := r.number(countSize, false)
	n.Right = r.link()
	for range count {
		c := next()
		if s.Err() != api.OK {
			break
		}
		n.Cells = append(n.Cells, c)
	}
	return n
}

// link is the number of a page.
func (r reader) link() int {
	return int(r.number(linkSize, false))
}

// key is a cell's key.
func (r reader) key() int {
	return Zag(r.variable(math.MaxUint64))
}

// inLeaf is a leaf's cell.
func (r reader) inLeaf() Cell {
	c := Cell{Key: r.key(), Length: int(r.variable(api.MaxPayload))}
	c.Local = r.bytes(Local(c.Length))
	if c.spills() {
		c.Next = r.link()
	}
	return c
}

// above is a cell of a node above the leaves.
func (r reader) above() Cell {
	return Cell{Child: r.link(), Key: r.key()}
}
