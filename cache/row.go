package cache

import (
	"iter"

	"hachure/api"
)

// entry is a page that is here, and its place in the row of those that were used.
type entry struct {
	page   int
	bytes  [api.PageSize]byte
	pins   int
	dirty  bool
	before *entry
	after  *entry
}

// ring is the head of a row without pages.
func ring() *entry {
	head := &entry{}
	head.before, head.after = head, head
	return head
}

// unlink takes e out of its row.
func (e *entry) unlink() {
	e.before.after, e.after.before = e.after, e.before
}

// link puts e at the row's end, where the page stands that was used last.
func (c *Cache) link(e *entry) {
	e.before, e.after = c.head.before, c.head
	e.before.after, e.after.before = e, e
}

// add takes a page that was not here; it is used.
func (c *Cache) add(e *entry) {
	c.pages[e.page] = e
	c.link(e)
}

// use makes e the page that was used last.
func (c *Cache) use(e *entry) {
	e.unlink()
	c.link(e)
}

// remove lets e go.
func (c *Cache) remove(e *entry) {
	delete(c.pages, e.page)
	e.unlink()
}

// row tells the pages, the one that was used longest ago first; the one that is told may go meanwhile.
func (c *Cache) row() iter.Seq[*entry] {
	return func(yield func(*entry) bool) {
		for e := c.head.after; e != c.head; {
			after := e.after
			if !yield(e) {
				return
			}
			e = after
		}
	}
}

// told is the numbers of the pages that which holds of, in the row's order.
func (c *Cache) told(which func(e *entry) bool) []int {
	if !c.made() {
		return nil
	}
	var out []int
	for e := range c.row() {
		if which(e) {
			out = append(out, e.page)
		}
	}
	return out
}

// shed lets at most so many of the pages go that may holds of, in the row's order: how many went.
func (c *Cache) shed(most int, may func(e *entry) bool) int {
	if most <= 0 {
		return 0
	}
	gone := 0
	for e := range c.row() {
		if may(e) {
			c.remove(e)
			gone++
		}
		if gone == most {
			break
		}
	}
	return gone
}
