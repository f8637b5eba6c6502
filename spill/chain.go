package spill

import (
	"iter"

	"hachure/api"
	"hachure/free"
	"hachure/octet"
)

// nextSize is how many bytes tell the next page.
const nextSize = api.PageSize - Room

// link is a page of a chain: its number, the next one's (0: it is the last), and its Room bytes.
type link struct {
	page  int
	next  int
	bytes []byte
}

// chain goes over the links from the first one on. Where they are not just count it ends with an error; so it has a bound, also if they lead back into themselves.
func chain(h *free.Heap, first, count int) iter.Seq2[link, api.Errno] {
	return func(yield func(link, api.Errno) bool) {
		page := first
		for range count {
			l, err := linkOf(h, page)
			if !yield(l, err) || err != api.OK {
				return
			}
			page = l.next
		}
		if page != 0 {
			yield(link{}, api.ErrBad)
		}
	}
}

// linkOf is the link on that page; ErrBad: there is none that may be, page 0 behind the last one among them.
func linkOf(h *free.Heap, page int) (link, api.Errno) {
	b, err := h.Pager().Get(page)
	// A dead pager has no pages at all, and yet its own error comes first.
	if err != api.OK && err != api.ErrRange {
		return link{}, err
	}
	if page <= free.Root || page > h.Pager().Pages() {
		return link{}, api.ErrBad
	}
	if err != api.OK {
		return link{}, err
	}
	head, bytes := cut(b, nextSize)
	next, _ := octet.Get(head, nextSize, false)
	return link{page, int(next), bytes}, api.OK
}

// lay puts b into these pages, piece by piece, each page leading to the one behind it.
func lay(h *free.Heap, pages []int, b []byte) api.Errno {
	for i, page := range pages {
		l := link{page: page}
		if i+1 < len(pages) {
			l.next = pages[i+1]
		}
		l.bytes, b = cut(b, Room)
		if err := h.Pager().Put(page, l.pageBytes()); err != api.OK {
			return err
		}
	}
	return api.OK
}

// pageBytes is the bytes of the link's page, noughts behind the end.
func (l link) pageBytes() []byte {
	out := make([]byte, api.PageSize)
	head, bytes := cut(out, nextSize)
	copy(head, octet.Put(nil, uint64(l.next), nextSize, false))
	copy(bytes, l.bytes)
	return out
}

// cut is the first bytes of b, at most so many, and those behind them; neither piece has room that reaches further.
func cut(b []byte, size int) (piece, behind []byte) {
	at, end := min(size, len(b)), len(b)
	return b[:at:at], b[at:end:end]
}

// noughts is whether b has nothing else.
func noughts(b []byte) bool {
	for _, x := range b {
		if x != 0 {
			return false
		}
	}
	return true
}
