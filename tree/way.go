package tree

import (
	"math"

	"hachure/api"
	"hachure/cell"
	"hachure/free"
)

// mostHeight is how many nodes may lie from a root to a leaf. A way that is longer is none of a tree's: each node that is no leaf has two children at least, and there are not pages for so many.
const mostHeight = 13

// bounds are the least and the greatest key that may stand in a node, and below it.
type bounds struct {
	least int
	most  int
}

// unbound are those of a root.
func unbound() bounds {
	return bounds{math.MinInt, math.MaxInt}
}

// hold says whether the node's keys, which rise, and those of all its children can lie within.
func (b bounds) hold(n cell.Node) bool {
	if len(n.Cells) == 0 {
		return true
	}
	first, last := n.Cells[0].Key, n.Cells[len(n.Cells)-1].Key
	if n.Leaf {
		return first >= b.least && last <= b.most
	}
	// Its last child has keys above the last one.
	return first >= b.least && last < b.most
}

// behind is the least key that lies behind them; false: all keys that are above are within.
func (b bounds) behind() (int, bool) {
	if b.most == math.MaxInt {
		return 0, false
	}
	return b.most + 1, true
}

// ahead is the greatest key that lies ahead of them; false: all keys that are below are within.
func (b bounds) ahead() (int, bool) {
	if b.least == math.MinInt {
		return 0, false
	}
	return b.least - 1, true
}

// step is a node that a way comes by: its page, which keys may stand there, what it says, and the place at which the way goes on.
type step struct {
	page   int
	bounds bounds
	node   cell.Node
	place  int
}

// way is the steps from a root down.
type way []step

// leaf is the last step of a way that was gone to its end.
func (w way) leaf() *step {
	return &w[len(w)-1]
}

// child is the step to the child at that place; its node is not read yet.
func (s step) child(place int) step {
	out := step{page: s.node.Right, bounds: s.bounds}
	if place > 0 {
		out.bounds.least = s.node.Cells[place-1].Key + 1
	}
	if place < len(s.node.Cells) {
		out.page, out.bounds.most = s.node.Cells[place].Child, s.node.Cells[place].Key
	}
	return out
}

// children are the steps to all children; a leaf has none.
func (s step) children() []step {
	if s.node.Leaf {
		return nil
	}
	var out []step
	for place := range len(s.node.Cells) + 1 {
		out = append(out, s.child(place))
	}
	return out
}

// cell is the key's cell, of a leaf whose place was found for that key.
func (s step) cell(key int) (cell.Cell, bool) {
	if s.place == len(s.node.Cells) || s.node.Cells[s.place].Key != key {
		return cell.Cell{}, false
	}
	return s.node.Cells[s.place], true
}

// top is the step to the root.
func (t *Tree) top() step {
	return step{page: t.root, bounds: unbound()}
}

// down is the way to the leaf in which the key is, or would be.
func (t *Tree) down(key int) (way, api.Errno) {
	if err := t.fault(); err != api.OK {
		return nil, err
	}
	var w way
	next := t.top()
	for range mostHeight {
		s, err := t.enter(next)
		if err != api.OK {
			return nil, err
		}
		s.place, _ = cell.Child(s.node, key)
		w = append(w, s)
		if s.node.Leaf {
			return w, api.OK
		}
		next = s.child(s.place)
	}
	return nil, api.ErrBad
}

// leaf is the last step of the way to the key.
func (t *Tree) leaf(key int) (step, api.Errno) {
	w, err := t.down(key)
	if err != api.OK {
		return step{}, err
	}
	return *w.leaf(), api.OK
}

// enter is the step with its node; ErrBad: there is none that may be at this place.
func (t *Tree) enter(s step) (step, api.Errno) {
	n, err := t.read(s.page)
	if err != api.OK {
		return step{}, err
	}
	empty := len(n.Cells) == 0 && !(n.Leaf && s.page == t.root)
	if empty || !s.bounds.hold(n) {
		return step{}, api.ErrBad
	}
	s.node = n
	return s, api.OK
}

// read is the node on that page; ErrBad: there is none.
func (t *Tree) read(page int) (cell.Node, api.Errno) {
	p := t.heap.Pager()
	b, err := p.Get(page)
	// A dead pager has no pages at all, and yet its own error comes first.
	if err != api.OK && err != api.ErrRange {
		return cell.Node{}, err
	}
	if page <= free.Root || page > p.Pages() {
		return cell.Node{}, api.ErrBad
	}
	if err != api.OK {
		return cell.Node{}, err
	}
	return cell.Parse(b)
}

// write puts the node on that page.
func (t *Tree) write(page int, n cell.Node) api.Errno {
	return t.heap.Pager().Put(page, cell.Bytes(n))
}
