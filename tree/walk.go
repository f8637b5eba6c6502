package tree

import (
	"slices"

	"hachure/api"
	"hachure/cell"
	"hachure/free"
	"hachure/spill"
)

// sought is a key beside which another one is looked for.
type sought int

// above is the least key of a leaf that is above.
func (k sought) above(n cell.Node) (int, bool) {
	at, ok := cell.Find(n, int(k))
	if ok {
		at++
	}
	if at == len(n.Cells) {
		return 0, false
	}
	return n.Cells[at].Key, true
}

// below is the greatest key of a leaf that is below.
func (k sought) below(n cell.Node) (int, bool) {
	at, _ := cell.Find(n, int(k))
	if at == 0 {
		return 0, false
	}
	return n.Cells[at-1].Key, true
}

// beside looks for a key in the leaf of the one that is given, and else in the leaf to which turn leads. That one has keys, and all of them are on the side that is asked for: so there is no third.
func (t *Tree) beside(key int, look func(n cell.Node) (int, bool), turn func(b bounds) (int, bool)) (int, bool, api.Errno) {
	for more := true; more; {
		leaf, err := t.leaf(key)
		if err != api.OK {
			return 0, false, err
		}
		if found, ok := look(leaf.node); ok {
			return found, true, api.OK
		}
		key, more = turn(leaf.bounds)
	}
	return 0, false, api.OK
}

// walk goes over all nodes, level by level, and shows each to the visits; ErrBad: one of them may not be. It goes no deeper than a tree can be, and over no more nodes than there are pages.
func (t *Tree) walk(visits ...func(s step) api.Errno) api.Errno {
	if err := t.fault(); err != api.OK {
		return err
	}
	level, left := []step{t.top()}, t.heap.Pager().Pages()
levels:
	for range mostHeight {
		var below []step
		for i, next := range level {
			s, err := t.enter(next)
			if err != api.OK {
				return err
			}
			if err := show(s, visits...); err != api.OK {
				return err
			}
			level[i], below = s, append(below, s.children()...)
			if s.node.Leaf != level[0].node.Leaf || len(below) > left {
				break levels
			}
		}
		if len(below) == 0 {
			return api.OK
		}
		level, left = below, left-len(below)
	}
	return api.ErrBad
}

// show hands the node to the visits, in their order, up to the first error.
func show(s step, visits ...func(s step) api.Errno) api.Errno {
	for _, visit := range visits {
		if err := visit(s); err != api.OK {
			return err
		}
	}
	return api.OK
}

// pages is all that the tree has, rising, once each node was shown to the visits.
func (t *Tree) pages(visits ...func(s step) api.Errno) ([]int, api.Errno) {
	if err := t.fault(); err != api.OK {
		return nil, err
	}
	all := tally{heap: t.heap}
	if err := t.walk(append(visits, all.list)...); err != api.OK {
		return nil, err
	}
	slices.Sort(all.pages)
	once := slices.Compact(all.pages)
	if len(once) < len(all.pages) {
		return nil, api.ErrBad
	}
	return once, api.OK
}

// readable is what is wrong with the node's values; those above the leaves have none.
func (t *Tree) readable(s step) api.Errno {
	for _, c := range s.node.Cells {
		if _, err := t.value(c); err != api.OK {
			return err
		}
	}
	return api.OK
}

// tally is what a walk has met.
type tally struct {
	heap  *free.Heap
	keys  int
	pages []int
}

// count adds the keys of a leaf.
func (a *tally) count(s step) api.Errno {
	if s.node.Leaf {
		a.keys += len(s.node.Cells)
	}
	return api.OK
}

// list adds the node's page, and those of its values' chains.
func (a *tally) list(s step) api.Errno {
	a.pages = append(a.pages, s.page)
	for _, c := range s.node.Cells {
		if spilt(c) == 0 {
			continue
		}
		chain, err := spill.Pages(a.heap, c.Next, spilt(c))
		if err != api.OK {
			return err
		}
		a.pages = append(a.pages, chain...)
		// So many can not be unlike; chains that many cells share are not gone over again and again.
		if len(a.pages) > a.heap.Pager().Pages() {
			return api.ErrBad
		}
	}
	return api.OK
}
