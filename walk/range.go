package walk

import (
	"iter"
	"math"

	"hachure/api"
	"hachure/tree"
)

// Range tells the keys from one on and below another, and their values, as they are when their turn comes.
func Range(t *tree.Tree, from, to int) iter.Seq2[int, []byte] {
	return func(yield func(int, []byte) bool) {
		c := New(t)
		for key, err := range c.stops(from) {
			// Nobody asks for the value of a key that is not told: it may be long.
			if err != api.OK || key >= to {
				return
			}
			value, err := c.Value()
			if err != api.OK || !yield(key, value) {
				return
			}
		}
	}
}

// Pairs is the first pairs, at most so many.
func Pairs(t *tree.Tree, most int) ([]api.Pair, api.Errno) {
	c := New(t)
	if most <= 0 {
		return nil, c.fault()
	}
	var l []api.Pair
	for key, err := range c.stops(math.MinInt) {
		if err != api.OK {
			return nil, err
		}
		value, err := c.Value()
		if err != api.OK {
			return nil, err
		}
		l = append(l, api.Pair{Key: key, Value: value})
		if len(l) == most {
			break
		}
	}
	return l, api.OK
}

// Fill puts each pair, in order, up to the first error; what was put ahead of it stays.
func Fill(t *tree.Tree, l []api.Pair) api.Errno {
	if err := New(t).fault(); err != api.OK {
		return err
	}
	for _, p := range l {
		if err := t.Put(p.Key, p.Value); err != api.OK {
			return err
		}
	}
	return api.OK
}

// stops is each key at which the cursor stands as it goes on from one to the last; an error ends it, and is told beside 0.
func (c *Cursor) stops(from int) iter.Seq2[int, api.Errno] {
	return func(yield func(int, api.Errno) bool) {
		ok, err := c.Seek(from)
		for ok {
			if !yield(c.key, api.OK) {
				return
			}
			ok, err = c.Next()
		}
		if err != api.OK {
			yield(0, err)
		}
	}
}
