package pager

import (
	"cmp"
	"maps"
	"slices"

	"hachure/api"
	"hachure/disk"
)

// fate is what befell a pager: the error that each of its calls answers, whatever it is asked.
type fate struct {
	made bool
	err  api.Errno
}

// told is that error; OK while the pager lives.
func (f fate) told() api.Errno {
	if !f.made {
		return api.ErrMade
	}
	return f.err
}

// fault is what the pager's fate says; there may be no pager at all.
func (p *Pager) fault() api.Errno {
	if p == nil {
		return api.ErrMade
	}
	return p.told()
}

// within is the first error of a call that is for a transaction alone.
func (p *Pager) within() api.Errno {
	if err := p.fault(); err != api.OK {
		return err
	}
	if !p.busy {
		return api.ErrState
	}
	return api.OK
}

// die leaves nothing of the pager but the error: nobody knows what is on the disk till it is opened again.
func (p *Pager) die() {
	*p = Pager{fate: fate{made: true, err: api.ErrPower}}
}

// state is what a transaction has made of the pages.
type state struct {
	pages int
	// changed has the bytes of just those pages that were changed, and that there are. They are never changed in place: copies of the map share them.
	changed map[int][]byte
}

// copied is s with a map of its own.
func (s state) copied() state {
	s.changed = maps.Clone(s.changed)
	return s
}

// pagesChanged is the numbers of the pages that were changed, rising.
func (s state) pagesChanged() []int {
	return slices.Sorted(maps.Keys(s.changed))
}

// mark is what a transaction had made of the pages when it was asked for a mark. Its number is kept beside it, for that of a mark that was undone past is not given again.
type mark struct {
	number int
	then   state
}

// find is where among the marks that number stands; not ok: there is no such mark, or it was undone past.
func (p *Pager) find(number int) (int, bool) {
	return slices.BinarySearchFunc(p.marks, number, func(m mark, number int) int {
		return cmp.Compare(m.number, number)
	})
}

// has is whether there is such a page, as the transaction has it.
func (p *Pager) has(page int) bool {
	return page >= 1 && page <= p.now.pages
}

// unchanged is whether the transaction has left all as it was at Begin.
func (p *Pager) unchanged() bool {
	return len(p.now.changed) == 0 && p.now.pages == p.pages
}

// before is a page's bytes as they were at Begin: from the cache, or from the disk by way of it.
func (p *Pager) before(page int) ([]byte, api.Errno) {
	if b, ok := p.kept.Get(page); ok {
		return b, api.OK
	}
	b, err := p.disk.Read(disk.Data, place(page), pageSectors)
	if err != api.OK {
		return nil, err
	}
	p.kept.Put(page, b)
	return b, api.OK
}

// settle takes what the transaction made of the pages for what is on the disk.
func (p *Pager) settle() {
	for page := p.now.pages + 1; page <= p.pages; page++ {
		p.kept.Drop(page)
	}
	for _, page := range p.now.pagesChanged() {
		p.kept.Put(page, p.now.changed[page])
	}
	p.pages = p.now.pages
	p.commits++
	p.end()
}

// end lets no transaction go on; the pages are those on the disk.
func (p *Pager) end() {
	p.busy = false
	p.now = state{pages: p.pages, changed: map[int][]byte{}}
	p.marks, p.last = nil, 0
}
