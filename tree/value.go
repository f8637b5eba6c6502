package tree

import (
	"slices"

	"hachure/api"
	"hachure/cell"
	"hachure/spill"
)

// spilt is how many bytes of the cell's value stand in a chain.
func spilt(c cell.Cell) int {
	return c.Length - len(c.Local)
}

// keep is a cell for the value, what does not stand in it laid into a chain.
func (t *Tree) keep(key int, b []byte) (cell.Cell, api.Errno) {
	local := cell.Local(len(b))
	c := cell.Cell{Key: key, Length: len(b), Local: b[:local]}
	if spilt(c) == 0 {
		return c, api.OK
	}
	next, err := spill.Write(t.heap, b[local:])
	c.Next = next
	return c, err
}

// value is the cell's value, whole.
func (t *Tree) value(c cell.Cell) ([]byte, api.Errno) {
	if spilt(c) == 0 {
		return c.Local, api.OK
	}
	more, err := spill.Read(t.heap, c.Next, spilt(c))
	if err != api.OK {
		return nil, err
	}
	return slices.Concat(c.Local, more), api.OK
}

// remove takes the key's cell out of the leaf, and gives its chain back; false: there is none.
func (t *Tree) remove(leaf *step, key int) (bool, api.Errno) {
	c, ok := leaf.cell(key)
	if !ok {
		return false, api.OK
	}
	if spilt(c) > 0 {
		if err := spill.Free(t.heap, c.Next, spilt(c)); err != api.OK {
			return false, err
		}
	}
	leaf.node.Cells = slices.Delete(leaf.node.Cells, leaf.place, leaf.place+1)
	return true, api.OK
}
