package walk_test

import (
	"math"
	"slices"
	"testing"

	"hachure/api"
	"hachure/disk"
	"hachure/tree"
	"hachure/walk"
)

func TestCursorsThatNoCallMade(t *testing.T) {
	for what, c := range map[string]*walk.Cursor{"nil": nil, "zero": {}} {
		for range 2 {
			for _, k := range ends() {
				for name, m := range moves(k) {
					if ok, e := m(c); ok || e != api.ErrMade {
						t.Errorf("%s: %s: %v, %s", what, name, ok, e)
					}
				}
			}
			wantNothing(t, what, c)
		}
		if c != nil && *c != (walk.Cursor{}) {
			t.Errorf("%s: it has changed", what)
		}
	}
}

// wantNothing asks that the cursor have nothing to tell, since no call made it, or its tree.
func wantNothing(t *testing.T, what string, c *walk.Cursor) {
	t.Helper()
	if k, ok := c.Key(); k != 0 || ok {
		t.Errorf("%s: Key: %d, %v", what, k, ok)
	}
	wantUnmade(t, what, c)
}

// wantUnmade asks Value and Delete for ErrMade.
func wantUnmade(t *testing.T, what string, c *walk.Cursor) {
	t.Helper()
	if b, e := c.Value(); len(b) > 0 || e != api.ErrMade {
		t.Errorf("%s: Value: %d bytes, %s", what, len(b), e)
	}
	wantErr(t, what+": Delete", c.Delete(), api.ErrMade)
}

func TestTreesThatNoCallMade(t *testing.T) {
	_, _, dropped := filled(t, 1, 2)
	must(t, dropped.Drop())
	for what, x := range map[string]*tree.Tree{"nil": nil, "zero": {}, "dropped": dropped} {
		if c := walk.New(x); c != nil {
			t.Errorf("%s: New: not nil", what)
		}
		for _, from := range ends() {
			for _, to := range ends() {
				seq := walk.Range(x, from, to)
				if seq == nil {
					t.Fatalf("%s: Range: nil", what)
				}
				for k := range seq {
					t.Errorf("%s: Range tells %d", what, k)
				}
			}
		}
		for _, n := range ends() {
			wantNoPairs(t, what, x, n, api.ErrMade)
		}
		for _, l := range [][]api.Pair{nil, {}, owned(1), {{Key: 1, Value: make([]byte, payload+1)}}} {
			wantErr(t, what+": Fill", walk.Fill(x, l), api.ErrMade)
		}
	}
}

// TestATreeThatWasDropped under a cursor: it is one that no call made, whether the cursor stands or not.
func TestATreeThatWasDropped(t *testing.T) {
	for name, m := range moves(1) {
		for _, stands := range []bool{true, false} {
			p, _, x := tall(t, each(1, 1, 50)...)
			c := over(t, x)
			if stands {
				c = at(t, x, 7)
			}
			must(t, x.Drop())
			wantUnchanged(t, p, func() {
				// Nothing moves the cursor, till it is asked to.
				wantUnmade(t, name, c)
				if _, ok := c.Key(); ok != stands {
					t.Errorf("Key: %v", ok)
				}
				for range 2 {
					if ok, e := m(c); ok || e != api.ErrMade {
						t.Errorf("%s: %v, %s", name, ok, e)
					}
					wantNothing(t, name, c)
				}
			})
		}
	}
}

// TestADeleteOutOfATransaction: the pager does not let it.
func TestADeleteOutOfATransaction(t *testing.T) {
	p, _, x := filled(t, 1, 5, 9)
	c, gone := at(t, x, 5), at(t, x, 9)
	must(t, gone.Delete())
	must(t, p.Commit())
	wantUnchanged(t, p, func() {
		for range 2 {
			wantErr(t, "Delete", c.Delete(), api.ErrState)
			wantAt(t, c, 5)
			wantValue(t, c, own(5))
		}
		// It is told ahead of the key's being gone.
		wantErr(t, "Delete", gone.Delete(), api.ErrState)
		wantAt(t, gone, 9)
		if _, e := gone.Value(); e != api.ErrNone {
			t.Errorf("Value: %s", e)
		}
		wantErr(t, "Delete, nowhere", over(t, x).Delete(), api.ErrState)
	})
	wantTree(t, x, owns(1, 5))
	must(t, p.Begin())
	must(t, c.Delete())
	wantGone(t, c, 5)
	wantTree(t, x, owns(1))
}

func TestAFillOutOfATransaction(t *testing.T) {
	p, _, x := filled(t, 1, 5)
	must(t, p.Commit())
	wantUnchanged(t, p, func() {
		wantErr(t, "Fill", walk.Fill(x, owned(7)), api.ErrState)
		wantErr(t, "Fill of what is there", walk.Fill(x, owned(1, 5)), api.ErrState)
		wantErr(t, "Fill of too long a value", walk.Fill(x, []api.Pair{{Key: 1, Value: make([]byte, payload+1)}}), api.ErrState)
		wantErr(t, "Fill of nothing", walk.Fill(x, nil), api.OK)
	})
	wantTree(t, x, owns(1, 5))
}

// TestAValueThatIsTooLong in the midst of a Fill: what is ahead of it is put, what is behind it is not.
func TestAValueThatIsTooLong(t *testing.T) {
	for _, n := range []int{payload + 1, payload + 2, 1 << 20} {
		for place := range 5 {
			_, _, x := filled(t, 1, 100)
			l := []api.Pair{{Key: 3, Value: own(3)}, {Key: 1, Value: []byte("one")}, {Key: 2, Value: value(2, payload)}, {Key: 7}}
			want := owns(1, 100)
			for _, p := range l[:place] {
				want[p.Key] = p.Value
			}
			wrong := api.Pair{Key: 100, Value: make([]byte, n)}
			wantErr(t, "Fill", walk.Fill(x, slices.Insert(l, place, wrong)), api.ErrArg)
			wantTree(t, x, want)
		}
	}
}

// TestARootThatMayNotBe: all are told so, and the cursor falls off.
func TestARootThatMayNotBe(t *testing.T) {
	for name, m := range moves(5) {
		p, _, x := filled(t, 1, 5, 9)
		c := at(t, x, 5)
		spoil(t, p, x.Root())
		wantUnchanged(t, p, func() {
			if b, e := c.Value(); len(b) > 0 || e != api.ErrBad {
				t.Errorf("Value: %d bytes, %s", len(b), e)
			}
			wantErr(t, "Delete", c.Delete(), api.ErrBad)
			wantAt(t, c, 5)
			if ok, e := m(c); ok || e != api.ErrBad {
				t.Errorf("%s: %v, %s", name, ok, e)
			}
			wantNowhere(t, c)
			// Nothing is asked of the tree by one who is nowhere.
			wantEnd(t, "Next, nowhere", (*walk.Cursor).Next, c)
			wantEnd(t, "Prev, nowhere", (*walk.Cursor).Prev, c)
			wantRange(t, x, 1, 9, nil)
			wantNoPairs(t, "a root that may not be", x, 1, api.ErrBad)
			wantErr(t, "Fill", walk.Fill(x, owned(1)), api.ErrBad)
			wantErr(t, "Fill of nothing", walk.Fill(x, nil), api.OK)
		})
		if walk.New(x) == nil {
			t.Error("New: nil, though a call made the tree")
		}
	}
}

// TestALeafThatMayNotBe is told to those who come there.
func TestALeafThatMayNotBe(t *testing.T) {
	keys := each(2, 2, 120)
	p, _, x := tall(t, keys...)
	leaves := leavesOf(t, p, x)
	middle := len(leaves) / 2
	bad := keysAt(t, p, leaves[middle])
	low, high := slices.Index(keys, bad[0]), slices.Index(keys, bad[len(bad)-1])
	spoil(t, p, leaves[middle])
	ahead, behind := keys[:low], keys[high+1:]
	c := over(t, x)
	wantMove(t, "First", (*walk.Cursor).First, c, ahead, 0)
	for i := 1; i < len(ahead); i++ {
		wantMove(t, "Next", (*walk.Cursor).Next, c, ahead, i)
	}
	wantFall(t, "Next", (*walk.Cursor).Next, c)
	wantMove(t, "Last", (*walk.Cursor).Last, c, behind, len(behind)-1)
	for i := len(behind) - 2; i >= 0; i-- {
		wantMove(t, "Prev", (*walk.Cursor).Prev, c, behind, i)
	}
	wantFall(t, "Prev", (*walk.Cursor).Prev, c)
	for _, k := range bad {
		wantFall(t, "Seek", seek(k), c)
	}
	wantTo(t, "Seek", seek(behind[1]), c, behind[1])
	wantRange(t, x, 0, 999, owned(ahead...))
	wantRange(t, x, 0, ahead[len(ahead)-1], owned(ahead[:len(ahead)-1]...))
	wantRange(t, x, bad[0], 999, nil)
	wantRange(t, x, behind[1], 999, owned(behind[1:]...))
	wantPairs(t, x, len(ahead), owned(ahead...))
	wantNoPairs(t, "a leaf that may not be", x, len(ahead)+1, api.ErrBad)
	wantErr(t, "Fill", walk.Fill(x, owned(ahead[0], bad[0], behind[1])), api.ErrBad)
}

// wantFall moves the cursor to a page that may not be.
func wantFall(t *testing.T, what string, m move, c *walk.Cursor) {
	t.Helper()
	if ok, e := m(c); ok || e != api.ErrBad {
		t.Fatalf("%s: %v, %s", what, ok, e)
	}
	wantNowhere(t, c)
}

// TestAChainThatMayNotBe: the key is there, but not its value.
func TestAChainThatMayNotBe(t *testing.T) {
	p, _, x := filled(t, 1, 9)
	must(t, x.Put(5, value(5, 900)))
	for page := 3; page <= p.Pages(); page++ {
		spoil(t, p, page)
	}
	c := at(t, x, 5)
	wantUnchanged(t, p, func() {
		if b, e := c.Value(); len(b) > 0 || e != api.ErrBad {
			t.Errorf("Value: %d bytes, %s", len(b), e)
		}
		wantAt(t, c, 5)
		wantErr(t, "Delete", c.Delete(), api.ErrBad)
		wantAt(t, c, 5)
	})
	wantTo(t, "Next", (*walk.Cursor).Next, c, 9)
	wantValue(t, c, own(9))
}

// TestNoRoomForAPage: what a Fill has put ahead of it stays; who calls undoes it.
func TestNoRoomForAPage(t *testing.T) {
	p, _, x := filled(t, 1)
	for p.Pages() < most-2 {
		_, e := p.Grow()
		must(t, e)
	}
	m, e := p.Mark()
	must(t, e)
	l := []api.Pair{{Key: 4, Value: value(4, 500)}, {Key: 2, Value: value(2, 96)}, {Key: 3, Value: value(3, 500)}, {Key: 7, Value: value(7, 500)}, {Key: 8}}
	wantErr(t, "Fill", walk.Fill(x, l), api.ErrFull)
	for _, p := range l[:3] {
		wantValue(t, at(t, x, p.Key), p.Value)
	}
	wantRow(t, x, []int{1, 2, 3, 4})
	must(t, p.Undo(m))
	wantTree(t, x, owns(1))
	c := at(t, x, 1)
	wantErr(t, "Fill", walk.Fill(x, l[3:]), api.OK)
	wantTo(t, "Next", (*walk.Cursor).Next, c, 7)
}

// TestADeleteWithoutRoom: two leaves share their cells anew, and the node above, which is full, gets a longer key.
func TestADeleteWithoutRoom(t *testing.T) {
	p, _, x := crowded(t)
	c := at(t, x, 0)
	m, e := p.Mark()
	must(t, e)
	wantErr(t, "Delete", c.Delete(), api.ErrFull)
	wantAt(t, c, 0)
	must(t, p.Undo(m))
	wantAt(t, c, 0)
	wantValue(t, c, value(2, 90))
	wantTo(t, "Next", (*walk.Cursor).Next, c, math.MaxInt-9)
}

// TestADeadPager: nothing can be told any more.
func TestADeadPager(t *testing.T) {
	for name, m := range moves(5) {
		d := disk.New(roomy)
		p, h, x := madeOn(t, d)
		must(t, walk.Fill(x, owned(1, 5, 9)))
		must(t, p.Commit())
		c := at(t, x, 5)
		must(t, p.Begin())
		must(t, h.Set(0, 1))
		must(t, d.Arm(1, disk.Crash{}))
		wantErr(t, "Commit", p.Commit(), api.ErrPower)
		if b, e := c.Value(); len(b) > 0 || e != api.ErrPower {
			t.Errorf("Value: %d bytes, %s", len(b), e)
		}
		wantErr(t, "Delete", c.Delete(), api.ErrPower)
		wantAt(t, c, 5)
		if ok, e := m(c); ok || e != api.ErrPower {
			t.Errorf("%s: %v, %s", name, ok, e)
		}
		wantNowhere(t, c)
		wantRange(t, x, 0, 10, nil)
		wantNoPairs(t, "a dead pager", x, 1, api.ErrPower)
		wantErr(t, "Fill", walk.Fill(x, owned(1)), api.ErrPower)
		if walk.New(x) == nil {
			t.Error("New: nil, though a call made the tree")
		}
	}
}

// TestATreeThatIsUndone: its pages are no more, though a call made it.
func TestATreeThatIsUndone(t *testing.T) {
	p, h, _ := made(t)
	m, e := p.Mark()
	must(t, e)
	x, e := tree.Make(h)
	must(t, e)
	must(t, walk.Fill(x, owned(1, 5, 9)))
	c := at(t, x, 5)
	must(t, p.Undo(m))
	if _, e := c.Value(); e != api.ErrBad {
		t.Errorf("Value: %s", e)
	}
	wantAt(t, c, 5)
	wantFall(t, "Next", (*walk.Cursor).Next, c)
	wantRange(t, x, 0, 10, nil)
	wantNoPairs(t, "undone", x, 1, api.ErrBad)
}
