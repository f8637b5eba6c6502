package tree

import (
	"slices"
	"sort"

	"hachure/api"
	"hachure/cell"
)

// lightSize is how many bytes a node but the root has, at least: one that has fewer is joined with another. A node of that size and a whole page, cut again, are two that fit.
const lightSize = api.PageSize / 4

// settle writes the leaf of a way that has changed, and each node above it that changes by that.
func (t *Tree) settle(w way) api.Errno {
	for at := len(w) - 1; at > 0; at-- {
		s := w[at]
		change := t.part
		if cell.Fits(s.node) {
			if cell.Size(s.node) >= lightSize {
				return t.write(s.page, s.node)
			}
			change = t.join
		}
		if err := change(&w[at-1], s); err != api.OK {
			return err
		}
	}
	return t.settleRoot(w[0].node)
}

// settleRoot writes the root, which keeps its page: it goes above two others, if it does not fit, and is its child, if it has but one.
func (t *Tree) settleRoot(n cell.Node) api.Errno {
	var err api.Errno
	switch {
	case !cell.Fits(n):
		n, err = t.raise(n)
	case !n.Leaf && len(n.Cells) == 0:
		n, err = t.lower(n.Right)
	}
	if err != api.OK {
		return err
	}
	return t.write(t.root, n)
}

// raise is a root above the two parts of one that does not fit.
func (t *Tree) raise(n cell.Node) (cell.Node, api.Errno) {
	low, err := t.heap.Take()
	if err != api.OK {
		return cell.Node{}, err
	}
	high, err := t.heap.Take()
	if err != api.OK {
		return cell.Node{}, err
	}
	key, err := t.divide(n, low, high)
	if err != api.OK {
		return cell.Node{}, err
	}
	return cell.Node{Right: high, Cells: []cell.Cell{{Key: key, Child: low}}}, api.OK
}

// lower is the node of the only child that a root has left, whose page goes.
func (t *Tree) lower(page int) (cell.Node, api.Errno) {
	n, err := t.read(page)
	if err != api.OK {
		return cell.Node{}, err
	}
	return n, t.heap.Give(page)
}

// part makes two nodes of one that does not fit, and tells the one above.
func (t *Tree) part(above *step, s step) api.Errno {
	page, err := t.heap.Take()
	if err != api.OK {
		return err
	}
	key, err := t.divide(s.node, s.page, page)
	if err != api.OK {
		return err
	}
	lead(&above.node, above.place, page)
	above.node.Cells = slices.Insert(above.node.Cells, above.place, cell.Cell{Key: key, Child: s.page})
	return api.OK
}

// join makes one node of a light one and the one beside it, or two, if they do not fit into one, and tells the one above.
func (t *Tree) join(above *step, s step) api.Errno {
	at := min(above.place, len(above.node.Cells)-1)
	low, high, err := t.pair(above, at, s)
	if err != api.OK {
		return err
	}
	both := joined(low.node, high.node, above.node.Cells[at].Key)
	if !cell.Fits(both) {
		above.node.Cells[at].Key, err = t.divide(both, low.page, high.page)
		return err
	}
	lead(&above.node, at+1, low.page)
	above.node.Cells = slices.Delete(above.node.Cells, at, at+1)
	if err := t.write(low.page, both); err != api.OK {
		return err
	}
	return t.heap.Give(high.page)
}

// pair is the children at a place and behind it, one of which is s, as it is by now.
func (t *Tree) pair(above *step, at int, s step) (low, high step, err api.Errno) {
	low, high = s, s
	if above.place == at {
		high, err = t.enter(above.child(at + 1))
	} else {
		low, err = t.enter(above.child(at))
	}
	if err == api.OK && low.node.Leaf != high.node.Leaf {
		err = api.ErrBad
	}
	return low, high, err
}

// divide writes the two parts of a node onto these pages: the key that is between them.
func (t *Tree) divide(n cell.Node, low, high int) (int, api.Errno) {
	first, second, key := cut(n)
	if err := t.write(low, first); err != api.OK {
		return 0, err
	}
	return key, t.write(high, second)
}

// cut is two nodes of one that does not fit, of about the same size, and the key that is between them: none of the first is above it, all of the second are.
func cut(n cell.Node) (first, second cell.Node, key int) {
	weigh := func(cells []cell.Cell) int {
		return cell.Size(cell.Node{Leaf: n.Leaf, Cells: cells})
	}
	at := sort.Search(len(n.Cells), func(at int) bool {
		return weigh(n.Cells[:at]) >= weigh(n.Cells[at:])
	})
	if n.Leaf {
		first, second = cell.Node{Leaf: true, Cells: n.Cells[:at]}, cell.Node{Leaf: true, Cells: n.Cells[at:]}
		return first, second, n.Cells[at-1].Key
	}
	// The cell between the two goes up; its child is the last one of the first.
	middle := n.Cells[at-1]
	first, second = cell.Node{Right: middle.Child, Cells: n.Cells[:at-1]}, cell.Node{Right: n.Right, Cells: n.Cells[at:]}
	return first, second, middle.Key
}

// joined is one node of two that stand side by side, with that key between them.
func joined(low, high cell.Node, key int) cell.Node {
	if low.Leaf {
		return cell.Node{Leaf: true, Cells: slices.Concat(low.Cells, high.Cells)}
	}
	between := []cell.Cell{{Key: key, Child: low.Right}}
	return cell.Node{Right: high.Right, Cells: slices.Concat(low.Cells, between, high.Cells)}
}

// lead makes the node lead to that page at a place.
func lead(n *cell.Node, place, page int) {
	if place == len(n.Cells) {
		n.Right = page
		return
	}
	n.Cells[place].Child = page
}
