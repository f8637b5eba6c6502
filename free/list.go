package free

import (
	"hachure/api"
	"hachure/pager"
)

// within is why a pager can not be changed, if it can not.
func within(p *pager.Pager) api.Errno {
	if p.Busy() {
		return api.OK
	}
	// The pager refuses this, and so tells why: none made it, it is dead, or no transaction goes on.
	return p.Shrink(p.Pages())
}

// root is the first page, for a call that changes nothing. Whether it is a root was asked when the heap was opened.
func (h *Heap) root() (root, api.Errno) {
	if h == nil {
		return root{}, api.ErrMade
	}
	p, err := h.get(Root)
	return root{p}, err
}

// changing is the first page, for a call that is for a transaction alone.
func (h *Heap) changing() (root, api.Errno) {
	if h == nil {
		return root{}, api.ErrMade
	}
	if err := within(h.pager); err != api.OK {
		return root{}, err
	}
	return h.root()
}

// get is a page, with bytes that may be changed: the pager has them once they are put.
func (h *Heap) get(number int) (page, api.Errno) {
	b, err := h.pager.Get(number)
	return page{number, b}, err
}

// put hands pages to the pager, in their order, up to the first one that it refuses.
func (h *Heap) put(pages ...page) api.Errno {
	for _, p := range pages {
		if err := h.pager.Put(p.number, p.bytes); err != api.OK {
			return err
		}
	}
	return api.OK
}

// has is whether there is such a page, and it may be free.
func (h *Heap) has(number int) bool {
	return number > Root && number <= h.pager.Pages()
}

// trunk is the trunk on that page; ErrBad: there is none that may be.
func (h *Heap) trunk(number int) (trunk, api.Errno) {
	if !h.has(number) {
		return trunk{}, api.ErrBad
	}
	p, err := h.get(number)
	if err != api.OK {
		return trunk{}, err
	}
	t := trunk{p}
	if t.size() > mostLeaves {
		return trunk{}, api.ErrBad
	}
	return t, api.OK
}

// list is all that are free, in the list's order; ErrBad: a trunk may not be. Calls that change the list ask it whole, too: else they would take one page twice from a list that leads back into itself.
func (h *Heap) list(r root) ([]int, api.Errno) {
	var out []int
	next, most := r.first(), r.count()
trunks:
	// A list that has no end behind as many trunks as there are pages, but for the root, leads back into itself.
	for range h.pager.Pages() {
		if next == 0 {
			return out, api.OK
		}
		t, err := h.trunk(next)
		if err != api.OK {
			return nil, err
		}
		out = append(out, next)
		leaves := t.leaves()
		for i := range t.size() {
			leaf, _ := leaves.get(i)
			if !h.has(leaf) {
				break trunks
			}
			out = append(out, leaf)
		}
		if len(out) > most {
			break
		}
		next = t.next()
	}
	return nil, api.ErrBad
}

// take is the page that goes out of a list that has some.
func (h *Heap) take(r root) (int, api.Errno) {
	t, err := h.trunk(r.first())
	if err != api.OK {
		return 0, err
	}
	number, first := t.number, t.next()
	if t.size() > 0 {
		number, first = t.drop(), t.number
	}
	r.lead(first, r.count()-1)
	// The noughts come last: the page that is taken may be the trunk.
	if err := h.put(t.page, r.page, blank(number)); err != api.OK {
		return 0, err
	}
	return number, api.OK
}

// give adds a page to the list, and to what r says of it.
func (h *Heap) give(r root, number int) api.Errno {
	// A root that could not say how many are free then is none that Give made.
	if r.count() == mostCount {
		return api.ErrBad
	}
	t := newTrunk(number, r.first())
	if t.next() != 0 {
		old, err := h.trunk(t.next())
		if err != api.OK {
			return err
		}
		if old.size() < mostLeaves {
			old.add(number)
			t = old
		}
	}
	r.lead(t.number, r.count()+1)
	return h.put(t.page, r.page)
}

// relist makes the list anew of these pages, in their order.
func (h *Heap) relist(r root, pages []int) api.Errno {
	r.lead(0, 0)
	if err := h.put(r.page); err != api.OK {
		return err
	}
	for _, number := range pages {
		if err := h.give(r, number); err != api.OK {
			return err
		}
	}
	return api.OK
}
