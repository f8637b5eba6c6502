package spill

import (
	"slices"

	"hachure/api"
	"hachure/free"
)

// asked is what is wrong with a heap, or with how many bytes a value has.
func asked(h *free.Heap, n int) api.Errno {
	if h.Pager() == nil {
		return api.ErrMade
	}
	if n < 1 || n > api.MaxPayload {
		return api.ErrArg
	}
	return api.OK
}

// listed is the pages that are free, for a call that takes or gives some.
func listed(h *free.Heap) ([]int, api.Errno) {
	// No heap takes page 0 back; but that is the last thing that it asks, and so it tells what else is wrong.
	if err := h.Give(0); err != api.ErrArg {
		return nil, err
	}
	return h.All()
}

// steady is whether pages can be taken from the list, or these given to it, without a failure on the way: it is as long as the root says, and none of the pages stands there twice.
func steady(h *free.Heap, all []int, more ...int) bool {
	count, err := h.Count()
	pages := slices.Concat(all, more)
	slices.Sort(pages)
	return err == api.OK && count == len(all) && len(slices.Compact(pages)) == len(all)+len(more)
}

// whole does a change, all of it or nothing. A mark is kept as long as the transaction goes on: none is made where the change is steady.
func whole(h *free.Heap, steady bool, change func() api.Errno) api.Errno {
	if steady {
		return change()
	}
	mark, err := h.Pager().Mark()
	if err != api.OK {
		return err
	}
	err = change()
	if err != api.OK {
		h.Pager().Undo(mark)
	}
	return err
}

// take is so many pages of the heap's.
func take(h *free.Heap, count int) ([]int, api.Errno) {
	out := make([]int, count)
	for i := range out {
		page, err := h.Take()
		if err != api.OK {
			return nil, err
		}
		out[i] = page
	}
	return out, api.OK
}

// give hands these pages back to the heap, in their order.
func give(h *free.Heap, pages []int) api.Errno {
	for _, page := range pages {
		if err := h.Give(page); err != api.OK {
			return err
		}
	}
	return api.OK
}
