package tree_test

import (
	"bytes"
	"encoding/binary"
	"math"
	"slices"
)

// What follows reads and writes trees by the words of chapters 9, 10 and 11 alone: nothing of it is the program's.

// Numbers by the chapters' words.
const (
	size     = 512
	room     = 508
	payload  = 20000
	most     = 4000
	maxLocal = 96
	minLocal = 32
	highest  = 13
	head     = 7
	roomy    = 32768
)

// rawCell is a cell of a node: of a leaf a key and its value, of another one a key and a child.
type rawCell struct {
	key, child, length, next int
	local                    []byte
}

// rawNode is what a node's page says.
type rawNode struct {
	leaf  bool
	right int
	cells []rawCell
}

// short is a leaf's cell of a value that stands in it.
func short(key int, value string) rawCell {
	return rawCell{key: key, length: len(value), local: []byte(value)}
}

// long is a leaf's cell of a value that goes on at a page.
func long(key int, value []byte, next int) rawCell {
	return rawCell{key: key, length: len(value), local: value[:minLocal], next: next}
}

// leafOf is a leaf.
func leafOf(cells ...rawCell) rawNode {
	return rawNode{leaf: true, cells: cells}
}

// leafAt is a leaf of these keys, each with a value of two bytes.
func leafAt(keys ...int) rawNode {
	n := rawNode{leaf: true}
	for _, k := range keys {
		n.cells = append(n.cells, short(k, "ab"))
	}
	return n
}

// aboveOf is a node above the leaves: child, key, child, key, and so on, up to the child behind the last key.
func aboveOf(l ...int) rawNode {
	n := rawNode{right: l[len(l)-1]}
	for i := 0; i+1 < len(l); i += 2 {
		n.cells = append(n.cells, rawCell{child: l[i], key: l[i+1]})
	}
	return n
}

func zig(n int) uint64 {
	if n < 0 {
		return uint64(-(n+1))*2 + 1
	}
	return uint64(n) * 2
}

func zag(n uint64) int {
	if n%2 == 1 {
		return -int(n/2) - 1
	}
	return int(n / 2)
}

// variable is a number in as few bytes as may be, at most nine.
func variable(n uint64) []byte {
	if n >= 1<<56 {
		out := make([]byte, 9)
		out[8] = byte(n)
		n >>= 8
		for i := 7; i >= 0; i-- {
			out[i] = byte(n&127) | 128
			n >>= 7
		}
		return out
	}
	out := []byte{byte(n & 127)}
	for n >>= 7; n > 0; n >>= 7 {
		out = append([]byte{byte(n&127) | 128}, out...)
	}
	return out
}

// variableAt is the number that begins b, and how many bytes it has; 0: none does.
func variableAt(b []byte) (uint64, int) {
	n := uint64(0)
	for i, x := range b {
		if i == 8 {
			n = n<<8 | uint64(x)
		} else {
			n = n<<7 | uint64(x&127)
		}
		if i == 8 || x < 128 {
			if !bytes.Equal(variable(n), b[:i+1]) {
				return 0, 0
			}
			return n, i + 1
		}
	}
	return 0, 0
}

// bytes is the node's page; it may be longer than one.
func (n rawNode) bytes() []byte {
	out := []byte{2}
	if n.leaf {
		out[0] = 1
	}
	out = binary.BigEndian.AppendUint16(out, uint16(len(n.cells)))
	out = binary.BigEndian.AppendUint32(out, uint32(n.right))
	for _, c := range n.cells {
		if !n.leaf {
			out = binary.BigEndian.AppendUint32(out, uint32(c.child))
			out = append(out, variable(zig(c.key))...)
			continue
		}
		out = append(out, variable(zig(c.key))...)
		out = append(out, variable(uint64(c.length))...)
		out = append(out, c.local...)
		if len(c.local) < c.length {
			out = binary.BigEndian.AppendUint32(out, uint32(c.next))
		}
	}
	return append(out, make([]byte, max(0, size-len(out)))...)
}

// rawLeafCell is the cell that begins b, and what is behind it.
func rawLeafCell(b []byte) (rawCell, []byte, bool) {
	key, used := variableAt(b)
	if used == 0 {
		return rawCell{}, nil, false
	}
	b = b[used:]
	length, used := variableAt(b)
	if used == 0 || length > payload {
		return rawCell{}, nil, false
	}
	b = b[used:]
	local := int(length)
	if local > maxLocal {
		local = minLocal
	}
	if len(b) < local {
		return rawCell{}, nil, false
	}
	c := rawCell{key: zag(key), length: int(length), local: b[:local]}
	b = b[local:]
	if local < int(length) {
		if len(b) < 4 {
			return rawCell{}, nil, false
		}
		c.next = int(binary.BigEndian.Uint32(b))
		b = b[4:]
		if c.next < 1 || c.next > most {
			return rawCell{}, nil, false
		}
	}
	return c, b, true
}

// rawAboveCell is likewise that of another node.
func rawAboveCell(b []byte) (rawCell, []byte, bool) {
	if len(b) < 4 {
		return rawCell{}, nil, false
	}
	child := int(binary.BigEndian.Uint32(b))
	key, used := variableAt(b[4:])
	if used == 0 || child < 1 || child > most {
		return rawCell{}, nil, false
	}
	return rawCell{key: zag(key), child: child}, b[4+used:], true
}

// rawOf is the node that a page says.
func rawOf(b []byte) (rawNode, bool) {
	n := rawNode{leaf: b[0] == 1, right: int(binary.BigEndian.Uint32(b[3:]))}
	next := rawAboveCell
	if n.leaf {
		next = rawLeafCell
	}
	if b[0] != 1 && b[0] != 2 || n.leaf != (n.right == 0) || n.right > most {
		return rawNode{}, false
	}
	rest := b[head:]
	for i := range int(binary.BigEndian.Uint16(b[1:])) {
		c, behind, ok := next(rest)
		if !ok || i > 0 && c.key <= n.cells[i-1].key {
			return rawNode{}, false
		}
		n.cells = append(n.cells, c)
		rest = behind
	}
	return n, len(bytes.Trim(rest, "\x00")) == 0
}

// told is all that a tree means.
type told struct {
	keys   []int
	values map[int][]byte
	height int
	pages  []int
	nodes  int
}

// file is pages, the first of which is page 1.
type file [][]byte

// How much of a tree is looked at: its nodes alone, its values' chains too, or the bytes behind their ends, too.
const (
	nodesAlone = iota
	chainsToo
	bytesToo
)

// has is whether a tree or a chain may have that page.
func (f file) has(page int) bool {
	return page >= 2 && page <= len(f)
}

// chain is the bytes and pages of a chain of n bytes; false: there is none.
func (f file) chain(page, n, much int) ([]byte, []int, bool) {
	if n == 0 || much == nodesAlone {
		return nil, nil, true
	}
	var out []byte
	var pages []int
	for len(out) < n {
		if !f.has(page) {
			return nil, nil, false
		}
		pages = append(pages, page)
		out = append(out, f[page-1][4:]...)
		page = int(binary.BigEndian.Uint32(f[page-1]))
	}
	noughts := len(bytes.Trim(out[n:], "\x00")) == 0
	return out[:n], pages, page == 0 && (noughts || much < bytesToo)
}

// subtree is what a node and all below it tell, and the keys of all its cells; false: it may not be.
func (f file) subtree(page, deep, much int) (told, []int, bool) {
	if deep > highest || !f.has(page) {
		return told{}, nil, false
	}
	n, ok := rawOf(f[page-1])
	if !ok || len(n.cells) == 0 && !(n.leaf && deep == 1) {
		return told{}, nil, false
	}
	if n.leaf {
		return f.leaf(page, n, much)
	}
	out := told{values: map[int][]byte{}, pages: []int{page}, nodes: 1}
	var all []int
	for i := range len(n.cells) + 1 {
		child := n.right
		low, high := math.MinInt, math.MaxInt
		if i < len(n.cells) {
			child, high = n.cells[i].child, n.cells[i].key
			all = append(all, high)
		}
		sub, keys, ok := f.subtree(child, deep+1, much)
		if !ok || i > 0 && sub.height+1 != out.height {
			return told{}, nil, false
		}
		if i > 0 {
			low = n.cells[i-1].key
		}
		for _, k := range keys {
			if k > high || i > 0 && k <= low {
				return told{}, nil, false
			}
		}
		out.height = sub.height + 1
		out.nodes += sub.nodes
		out.pages = append(out.pages, sub.pages...)
		out.keys = append(out.keys, sub.keys...)
		all = append(all, keys...)
		for k, v := range sub.values {
			out.values[k] = v
		}
		if len(out.pages) > len(f) {
			return told{}, nil, false
		}
	}
	return out, all, true
}

// leaf is what a leaf tells.
func (f file) leaf(page int, n rawNode, much int) (told, []int, bool) {
	out := told{values: map[int][]byte{}, height: 1, pages: []int{page}, nodes: 1}
	for _, c := range n.cells {
		more, pages, ok := f.chain(c.next, c.length-len(c.local), much)
		if !ok {
			return told{}, nil, false
		}
		out.keys = append(out.keys, c.key)
		out.values[c.key] = slices.Concat(c.local, more)
		out.pages = append(out.pages, pages...)
	}
	return out, out.keys, true
}

// tree is what the tree tells whose root that is; false: it is not sound.
func (f file) tree(root, much int) (told, bool) {
	out, _, ok := f.subtree(root, 1, much)
	if !ok {
		return told{}, false
	}
	slices.Sort(out.pages)
	for i := 1; i < len(out.pages); i++ {
		if out.pages[i] == out.pages[i-1] {
			return told{}, false
		}
	}
	return out, true
}
