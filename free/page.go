package free

import (
	"math"

	"hachure/api"
	"hachure/octet"
)

// name is what a root begins with.
const name = "hachure1"

// How long numbers are.
const (
	linkSize = 4
	wordSize = 8
)

// Where numbers stand in a root, and in a trunk.
const (
	firstAt  = len(name)
	countAt  = firstAt + linkSize
	wordsAt  = countAt + linkSize
	nextAt   = 0
	sizeAt   = nextAt + linkSize
	leavesAt = sizeAt + linkSize
)

// How many there may be.
const (
	mostWords  = 60
	mostLeaves = (api.PageSize - leavesAt) / linkSize
	mostCount  = math.MaxUint32
)

// page is a page's number, and bytes for it.
type page struct {
	number int
	bytes  []byte
}

// blank is a page of noughts.
func blank(number int) page {
	return page{number, make([]byte, api.PageSize)}
}

// tell is the number that size bytes at a place are.
func (p page) tell(at, size int) int {
	n, _ := octet.Get(p.bytes[at:], size, false)
	return int(n)
}

// write makes size bytes at a place that number.
func (p page) write(at, size, n int) {
	copy(p.bytes[at:], octet.Put(nil, uint64(n), size, false))
}

// row is numbers of one size that stand in a page one behind the other, and the methods of that page which tell and write them.
type row struct {
	tell  func(at, size int) int
	write func(at, size, n int)
	from  int
	size  int
	count int
}

// get is the number at i.
func (r row) get(i int) (int, api.Errno) {
	if i < 0 || i >= r.count {
		return 0, api.ErrRange
	}
	return r.tell(r.from+i*r.size, r.size), api.OK
}

// set makes the number at i that one.
func (r row) set(i, n int) api.Errno {
	if i < 0 || i >= r.count {
		return api.ErrRange
	}
	r.write(r.from+i*r.size, r.size, n)
	return api.OK
}

// root is the first page: where the list of free pages begins, how many it has, and the words of others.
type root struct{ page }

// newRoot is a root without free pages, all words 0.
func newRoot() root {
	p := blank(Root)
	copy(p.bytes, name)
	return root{p}
}

// named is whether the page says that it is a root.
func (r root) named() bool {
	return string(r.bytes[:len(name)]) == name
}

// first is the first trunk; 0: there is none.
func (r root) first() int { return r.tell(firstAt, linkSize) }

// count is how many pages are free.
func (r root) count() int { return r.tell(countAt, linkSize) }

// lead makes the list begin at that trunk, with so many pages.
func (r root) lead(first, count int) {
	r.write(firstAt, linkSize, first)
	r.write(countAt, linkSize, count)
}

// words are those that others use.
func (r root) words() row {
	return row{r.tell, r.write, wordsAt, wordSize, mostWords}
}

// trunk is a free page that tells others, its leaves.
type trunk struct{ page }

// newTrunk is a trunk without leaves.
func newTrunk(number, next int) trunk {
	t := trunk{blank(number)}
	t.write(nextAt, linkSize, next)
	return t
}

// next is the trunk behind; 0: there is none.
func (t trunk) next() int { return t.tell(nextAt, linkSize) }

// size is how many leaves it says it has.
func (t trunk) size() int { return t.tell(sizeAt, linkSize) }

// leaves are as many as there is room for.
func (t trunk) leaves() row {
	return row{t.tell, t.write, leavesAt, linkSize, mostLeaves}
}

// add puts a leaf behind the last one; the caller knows that there is room.
func (t trunk) add(leaf int) {
	size := t.size()
	t.leaves().set(size, leaf)
	t.write(sizeAt, linkSize, size+1)
}

// drop takes the last leaf away; the caller knows that there is one. Noughts stay in its place.
func (t trunk) drop() int {
	last := t.size() - 1
	leaf, _ := t.leaves().get(last)
	t.leaves().set(last, 0)
	t.write(sizeAt, linkSize, last)
	return leaf
}
