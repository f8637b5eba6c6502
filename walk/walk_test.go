package walk_test

import (
	"bytes"
	"maps"
	"math"
	"slices"
	"testing"

	"hachure/api"
	"hachure/disk"
	"hachure/free"
	"hachure/pager"
	"hachure/tree"
	"hachure/walk"
)

func TestTheChaptersExample(t *testing.T) {
	_, _, x := filled(t, 1, 5)
	c := over(t, x)
	wantTo(t, "Seek(2)", seek(2), c, 5)
	wantTo(t, "Prev", (*walk.Cursor).Prev, c, 1)
	wantEnd(t, "Prev", (*walk.Cursor).Prev, c)
}

func TestATreeWithoutKeys(t *testing.T) {
	_, _, x := made(t)
	for _, k := range ends() {
		for name, m := range moves(k) {
			wantEnd(t, name, m, over(t, x))
		}
	}
	wantRow(t, x, nil)
	wantRange(t, x, math.MinInt, math.MaxInt, nil)
	wantPairs(t, x, 9, nil)
}

func TestATreeWithOneKey(t *testing.T) {
	for _, k := range append(ends(), 77, -1<<40) {
		_, _, x := filled(t, k)
		wantRow(t, x, []int{k})
		wantValue(t, at(t, x, k), own(k))
		wantSought(t, x, []int{k})
		wantPairs(t, x, 1, owned(k))
		wantPairs(t, x, 2, owned(k))
	}
}

// wantSought seeks all keys, and the numbers beside them, each by a cursor that comes from elsewhere.
func wantSought(t *testing.T, x *tree.Tree, keys []int) {
	t.Helper()
	c := over(t, x)
	numbers := ends()
	for _, k := range keys {
		numbers = append(numbers, k)
		if k > math.MinInt {
			numbers = append(numbers, k-1)
		}
		if k < math.MaxInt {
			numbers = append(numbers, k+1)
		}
	}
	for _, n := range mixed(len(keys), numbers) {
		place, _ := slices.BinarySearch(keys, n)
		wantMove(t, "Seek", seek(n), c, keys, place)
		wantMove(t, "Seek again", seek(n), c, keys, place)
	}
}

func TestManyKeys(t *testing.T) {
	for _, keys := range [][]int{
		each(1, 1, 60),
		each(3, -200, 200),
		each(1<<50, -1<<56, 1<<56),
		each(7, -5000, 5000),
		append(each(1, math.MinInt, math.MinInt+30), each(1, math.MaxInt-30, math.MaxInt-1)...),
	} {
		for _, l := range [][]int{keys, falling(keys), mixed(3, keys)} {
			_, _, x := tall(t, l...)
			wantRow(t, x, keys)
			wantSought(t, x, keys)
			wantRange(t, x, math.MinInt, math.MaxInt, owned(keys...))
			wantPairs(t, x, len(keys), owned(keys...))
		}
	}
}

// TestEachPlace: from each key the steps lead to those beside it, whichever way the cursor came.
func TestEachPlace(t *testing.T) {
	keys := each(3, -120, 120)
	_, _, x := tall(t, mixed(1, keys)...)
	for i, k := range keys {
		for name, to := range map[string]int{"Next": i + 1, "Prev": i - 1} {
			wantMove(t, name, moves(0)[name], at(t, x, k), keys, to)
		}
		c := at(t, x, k)
		wantValue(t, c, own(k))
		wantMove(t, "First", (*walk.Cursor).First, c, keys, 0)
		c = at(t, x, k)
		wantMove(t, "Last", (*walk.Cursor).Last, c, keys, len(keys)-1)
		wantMove(t, "Seek", seek(k+1), c, keys, i+1)
	}
}

// TestTheEndsOfNumbers: the least and the greatest number are keys as others are.
func TestTheEndsOfNumbers(t *testing.T) {
	all := ends()
	for bits := range 1 << len(all) {
		var keys []int
		for i, k := range all {
			if bits>>i&1 == 1 {
				keys = append(keys, k)
			}
		}
		_, _, x := filled(t, keys...)
		wantRow(t, x, keys)
		wantSought(t, x, keys)
		wantPairs(t, x, 99, owned(keys...))
		within := slices.DeleteFunc(slices.Clone(keys), func(k int) bool { return k == math.MaxInt })
		wantRange(t, x, math.MinInt, math.MaxInt, owned(within...))
	}
	_, _, x := tall(t, append(each(1, -50, 50), math.MinInt, math.MaxInt)...)
	keys := slices.Concat([]int{math.MinInt}, each(1, -50, 50), []int{math.MaxInt})
	wantRow(t, x, keys)
	for _, end := range []int{math.MinInt, math.MaxInt} {
		c := at(t, x, end)
		wantValue(t, c, own(end))
		must(t, c.Delete())
		wantGone(t, c, end)
	}
	wantRow(t, x, each(1, -50, 50))
}

// TestNowhere: what follows when there is no key to stand at.
func TestNowhere(t *testing.T) {
	p, _, x := filled(t, 1, 5, 9)
	for name, m := range map[string]move{"Next": (*walk.Cursor).Next, "Prev": (*walk.Cursor).Prev} {
		c := over(t, x)
		wantEnd(t, name+" of a new cursor", m, c)
		wantEnd(t, name+" again", m, c)
	}
	c := over(t, x)
	wantUnchanged(t, p, func() {
		for range 3 {
			wantTo(t, "Last", (*walk.Cursor).Last, c, 9)
			wantEnd(t, "Next behind the last key", (*walk.Cursor).Next, c)
			wantEnd(t, "Prev, nowhere", (*walk.Cursor).Prev, c)
			wantTo(t, "First", (*walk.Cursor).First, c, 1)
			wantEnd(t, "Prev ahead of the first key", (*walk.Cursor).Prev, c)
			wantEnd(t, "Next, nowhere", (*walk.Cursor).Next, c)
			wantTo(t, "Seek(5)", seek(5), c, 5)
			wantEnd(t, "Seek above all", seek(10), c)
			wantEnd(t, "Next, nowhere", (*walk.Cursor).Next, c)
			wantTo(t, "Seek below all", seek(-10), c, 1)
		}
	})
	// A key that comes does not draw a cursor to it.
	wantEnd(t, "Seek above all", seek(10), c)
	must(t, x.Put(10, own(10)))
	wantNowhere(t, c)
	wantEnd(t, "Next, nowhere", (*walk.Cursor).Next, c)
	wantTo(t, "Seek(10)", seek(10), c, 10)
}

// TestNowhereInAnEmptyTree: a cursor that stood falls off, if the tree has no key any more.
func TestNowhereInAnEmptyTree(t *testing.T) {
	for name, m := range moves(0) {
		_, _, x := filled(t, 1)
		c := at(t, x, 1)
		must(t, c.Delete())
		wantGone(t, c, 1)
		wantEnd(t, name, m, c)
	}
}

// TestKeysThatCome while a cursor stands count at its next step.
func TestKeysThatCome(t *testing.T) {
	_, _, x := filled(t, 10, 20)
	c := at(t, x, 10)
	must(t, x.Put(15, own(15)))
	must(t, x.Put(5, own(5)))
	wantAt(t, c, 10)
	wantValue(t, c, own(10))
	wantTo(t, "Next", (*walk.Cursor).Next, c, 15)
	must(t, x.Put(12, own(12)))
	wantTo(t, "Prev", (*walk.Cursor).Prev, c, 12)
	must(t, x.Put(11, own(11)))
	must(t, x.Put(math.MinInt, own(0)))
	wantTo(t, "Prev", (*walk.Cursor).Prev, c, 11)
	wantTo(t, "First", (*walk.Cursor).First, c, math.MinInt)
	wantTo(t, "Next", (*walk.Cursor).Next, c, 5)
	// So many that the leaf at which it stands is cut, and the root rises.
	for _, k := range mixed(2, each(1, 100, 400)) {
		must(t, x.Put(k, own(k)))
		must(t, x.Put(-k, own(-k)))
	}
	wantAt(t, c, 5)
	wantValue(t, c, own(5))
	wantTo(t, "Prev", (*walk.Cursor).Prev, c, -100)
	wantTo(t, "Next", (*walk.Cursor).Next, c, 5)
	wantTo(t, "Next", (*walk.Cursor).Next, c, 10)
}

// TestKeysThatGo while a cursor stands are not met by its next step.
func TestKeysThatGo(t *testing.T) {
	_, _, x := tall(t, each(1, 1, 100)...)
	c := at(t, x, 50)
	for k := 51; k <= 60; k++ {
		if _, e := x.Delete(k); e != api.OK {
			t.Fatal(e)
		}
	}
	wantValue(t, c, own(50))
	wantTo(t, "Next", (*walk.Cursor).Next, c, 61)
	wantTo(t, "Prev", (*walk.Cursor).Prev, c, 50)
	// All but two go, so that leaves are joined, and the root falls.
	for _, k := range mixed(1, each(1, 1, 100)) {
		if k != 7 && k != 93 {
			_, e := x.Delete(k)
			must(t, e)
		}
	}
	wantGone(t, c, 50)
	wantTo(t, "Next", (*walk.Cursor).Next, c, 93)
	wantTo(t, "Prev", (*walk.Cursor).Prev, c, 7)
	wantEnd(t, "Prev", (*walk.Cursor).Prev, c)
}

// TestItsOwnKeyGoes: the place is left, from which it steps on, till the key comes back.
func TestItsOwnKeyGoes(t *testing.T) {
	for name, take := range map[string]func(x *tree.Tree, c *walk.Cursor) api.Errno{
		"by the tree": func(x *tree.Tree, _ *walk.Cursor) api.Errno {
			_, e := x.Delete(5)
			return e
		},
		"by the cursor": func(_ *tree.Tree, c *walk.Cursor) api.Errno { return c.Delete() },
	} {
		t.Run(name, func(t *testing.T) {
			gone := func(keys ...int) (*tree.Tree, *walk.Cursor) {
				_, _, x := filled(t, keys...)
				c := at(t, x, 5)
				must(t, take(x, c))
				wantGone(t, c, 5)
				return x, c
			}
			_, c := gone(1, 5, 9)
			wantTo(t, "Next", (*walk.Cursor).Next, c, 9)
			_, c = gone(1, 5, 9)
			wantTo(t, "Prev", (*walk.Cursor).Prev, c, 1)
			wantTo(t, "Next", (*walk.Cursor).Next, c, 9)
			_, c = gone(1, 5)
			wantEnd(t, "Next", (*walk.Cursor).Next, c)
			_, c = gone(5, 9)
			wantEnd(t, "Prev", (*walk.Cursor).Prev, c)
			_, c = gone(5)
			wantEnd(t, "Next", (*walk.Cursor).Next, c)
			x, c := gone(1, 5, 9)
			must(t, x.Put(5, []byte("again")))
			wantAt(t, c, 5)
			wantValue(t, c, []byte("again"))
			must(t, c.Delete())
			wantGone(t, c, 5)
			must(t, x.Put(6, own(6)))
			must(t, x.Put(4, own(4)))
			wantTo(t, "Next", (*walk.Cursor).Next, c, 6)
			wantTo(t, "Prev", (*walk.Cursor).Prev, c, 4)
		})
	}
}

// TestDeleteTakesTheKeyAlone, and its pages are free.
func TestDeleteTakesTheKeyAlone(t *testing.T) {
	_, h, x := made(t)
	all := map[int][]byte{}
	for _, k := range each(1, 1, 30) {
		all[k] = value(k, k*40)
		must(t, x.Put(k, all[k]))
	}
	for _, k := range mixed(4, each(1, 1, 30)) {
		before, e := x.Pages()
		must(t, e)
		free := len(freeOf(t, h))
		c := at(t, x, k)
		wantValue(t, c, all[k])
		must(t, c.Delete())
		delete(all, k)
		wantGone(t, c, k)
		wantTree(t, x, all)
		after, e := x.Pages()
		must(t, e)
		if gone := len(before) - len(after); len(freeOf(t, h))-free != gone || k*40 > 600 && gone < 1 {
			t.Fatalf("key %d: %d pages went, %d are free behind %d", k, gone, len(freeOf(t, h)), free)
		}
	}
}

func freeOf(t *testing.T, h *free.Heap) []int {
	t.Helper()
	l, e := h.All()
	must(t, e)
	return l
}

// TestDeleteAll: a walk may take each key as it comes, in either direction.
func TestDeleteAll(t *testing.T) {
	keys := each(3, -300, 300)
	for name, way := range map[string][2]move{
		"rising":  {(*walk.Cursor).First, (*walk.Cursor).Next},
		"falling": {(*walk.Cursor).Last, (*walk.Cursor).Prev},
	} {
		_, _, x := tall(t, keys...)
		c := over(t, x)
		var met []int
		ok, e := way[0](c)
		for ; ok; ok, e = way[1](c) {
			k, _ := c.Key()
			met = append(met, k)
			must(t, c.Delete())
		}
		must(t, e)
		if name == "falling" {
			slices.Reverse(met)
		}
		if !slices.Equal(met, keys) {
			t.Fatalf("%s: %v", name, met)
		}
		wantTree(t, x, nil)
		wantNowhere(t, c)
	}
}

// TestTwoCursors do not heed one another.
func TestTwoCursors(t *testing.T) {
	_, _, x := filled(t, 1, 5, 9)
	a, b := at(t, x, 5), at(t, x, 5)
	wantTo(t, "Next", (*walk.Cursor).Next, a, 9)
	wantAt(t, b, 5)
	must(t, a.Delete())
	wantAt(t, a, 9)
	wantEnd(t, "Next", (*walk.Cursor).Next, b)
	wantAt(t, a, 9)
	wantTo(t, "Prev", (*walk.Cursor).Prev, a, 5)
	// One of another tree stands where it does.
	_, _, y := filled(t, 5, 6)
	c := at(t, y, 5)
	must(t, a.Delete())
	wantGone(t, a, 5)
	wantValue(t, c, own(5))
	wantTo(t, "Next", (*walk.Cursor).Next, c, 6)
}

// TestAnotherTreeOfTheSameRoot: what is done by it counts, too.
func TestAnotherTreeOfTheSameRoot(t *testing.T) {
	_, h, x := filled(t, 1, 5, 9)
	y, e := tree.Open(h, x.Root())
	must(t, e)
	c := at(t, x, 5)
	must(t, y.Put(7, own(7)))
	_, e = y.Delete(5)
	must(t, e)
	wantGone(t, c, 5)
	wantTo(t, "Next", (*walk.Cursor).Next, c, 7)
}

// TestWhatIsUndone: keys count as they are now.
func TestWhatIsUndone(t *testing.T) {
	p, _, x := filled(t, 1, 5, 9)
	c := at(t, x, 5)
	m, e := p.Mark()
	must(t, e)
	must(t, x.Put(7, own(7)))
	must(t, c.Delete())
	wantGone(t, c, 5)
	must(t, p.Undo(m))
	wantAt(t, c, 5)
	wantValue(t, c, own(5))
	wantTo(t, "Next", (*walk.Cursor).Next, c, 9)
	must(t, p.Commit())
	wantTo(t, "Prev", (*walk.Cursor).Prev, c, 5)
	must(t, p.Begin())
	must(t, c.Delete())
	must(t, p.Rollback())
	wantValue(t, c, own(5))
}

// TestNoTransactionIsNeeded by those who change nothing.
func TestNoTransactionIsNeeded(t *testing.T) {
	d := disk.New(roomy)
	p, _, x := madeOn(t, d)
	for _, k := range each(1, 1, 50) {
		must(t, x.Put(k, own(k)))
	}
	must(t, p.Commit())
	wantRow(t, x, each(1, 1, 50))
	wantSought(t, x, each(1, 1, 50))
	p, e := pager.Open(d, 8)
	must(t, e)
	h, e := free.Open(p)
	must(t, e)
	x, e = tree.Open(h, 2)
	must(t, e)
	wantRow(t, x, each(1, 1, 50))
	wantRange(t, x, 10, 20, owned(each(1, 10, 19)...))
	wantPairs(t, x, 3, owned(1, 2, 3))
	wantValue(t, at(t, x, 9), own(9))
	wantErr(t, "Fill of nothing", walk.Fill(x, nil), api.OK)
}

// TestMovesReadNoValue: keys alone count, whatever their values' chains are like.
func TestMovesReadNoValue(t *testing.T) {
	p, _, x := made(t)
	for _, k := range []int{math.MinInt, 1, 5, 9, math.MaxInt} {
		must(t, x.Put(k, value(k, 300)))
	}
	pages, e := x.Pages()
	must(t, e)
	for _, page := range pages {
		if page != x.Root() {
			spoil(t, p, page)
		}
	}
	wantRow(t, x, []int{math.MinInt, 1, 5, 9, math.MaxInt})
	wantSought(t, x, []int{math.MinInt, 1, 5, 9, math.MaxInt})
}

// TestAValueIsNewMemory each time.
func TestAValueIsNewMemory(t *testing.T) {
	_, _, x := made(t)
	long := value(1, 2000)
	must(t, x.Put(1, []byte("short")))
	must(t, x.Put(2, long))
	for k, want := range map[int][]byte{1: []byte("short"), 2: long} {
		c := at(t, x, k)
		b, e := c.Value()
		must(t, e)
		all := b[:cap(b)]
		for i := range all {
			all[i] ^= 255
		}
		wantValue(t, c, want)
	}
	wantTree(t, x, map[int][]byte{1: []byte("short"), 2: long})
}

func TestValuesOfAllLengths(t *testing.T) {
	_, _, x := made(t)
	all := map[int][]byte{}
	for i, n := range []int{0, 1, 95, 96, 97, 98, 539, 540, 541, 1048, 1049, 5000, payload - 1, payload} {
		all[i] = value(i, n)
		must(t, x.Put(i, all[i]))
	}
	for k, v := range all {
		wantValue(t, at(t, x, k), v)
	}
	wantRange(t, x, 0, 99, rising(all))
	wantPairs(t, x, 99, rising(all))
	// What is put anew counts, at the place at which the cursor stands, too.
	c := at(t, x, 3)
	must(t, x.Put(3, value(5, 700)))
	wantValue(t, c, value(5, 700))
	must(t, x.Put(3, nil))
	wantValue(t, c, nil)
}

// TestKeysThatStay are met just once, in order, whatever else comes and goes meanwhile.
func TestKeysThatStay(t *testing.T) {
	t.Parallel()
	for seed := range 30 {
		s := thrown(seed)
		// Keys of the rest 0 stay, all others come and go.
		apart := 2 + s.under(6)
		stay := each(apart, -60*apart, 60*apart)
		_, _, x := tall(t, stay...)
		c := over(t, x)
		way := [2]move{(*walk.Cursor).First, (*walk.Cursor).Next}
		if seed%2 == 1 {
			way = [2]move{(*walk.Cursor).Last, (*walk.Cursor).Prev}
			slices.Reverse(stay)
		}
		var met []int
		last := 0
		ok, e := way[0](c)
		for ; ok; ok, e = way[1](c) {
			k, _ := c.Key()
			if len(met) > 0 && (k > last) != (seed%2 == 0) || k == last && len(met) > 0 {
				t.Fatalf("seed %d: key %d behind %d", seed, k, last)
			}
			last = k
			if k%apart == 0 {
				met = append(met, k)
			} else if s.under(2) == 0 {
				must(t, c.Delete())
			}
			stir(t, s, x, k, apart)
		}
		must(t, e)
		if !slices.Equal(met, stay) {
			t.Fatalf("seed %d: met were %v", seed, met)
		}
	}
}

// stir puts and deletes keys that do not stay, near to a key and far from it.
func stir(t *testing.T, s *dice, x *tree.Tree, near, apart int) {
	t.Helper()
	for range s.under(6) {
		k := near + s.under(9) - 4
		if s.under(3) == 0 {
			k = s.under(140*apart) - 70*apart
		}
		switch {
		case k%apart == 0:
			// It stays, but may get another value.
			if _, ok, _ := x.Get(k); ok {
				must(t, x.Put(k, value(k, s.under(300))))
			}
		case s.under(2) == 0:
			must(t, x.Put(k, value(k, s.under(300))))
		default:
			_, e := x.Delete(k)
			must(t, e)
		}
	}
}

// TestWhatComesIsNotKept: a caller may change bytes behind a Fill.
func TestWhatComesIsNotKept(t *testing.T) {
	_, _, x := made(t)
	long, short := value(1, 3000), []byte("short")
	l := []api.Pair{{Key: 2, Value: bytes.Clone(long)}, {Key: 1, Value: bytes.Clone(short)}, {Key: 3}}
	room := append(make([]api.Pair, 0, 9), l...)
	must(t, walk.Fill(x, room))
	if !same(room, l) || !same(room[:4][3:], []api.Pair{{}}) {
		t.Error("Fill has changed what it was given")
	}
	for _, p := range l {
		for i := range p.Value {
			p.Value[i] = 0
		}
	}
	clear(room)
	wantTree(t, x, map[int][]byte{1: short, 2: long, 3: nil})
}

func TestFillInAnyOrder(t *testing.T) {
	keys := append(each(5, -400, 400), math.MinInt, math.MaxInt)
	want := owned(slices.Sorted(slices.Values(keys))...)
	for _, l := range [][]int{keys, falling(keys), mixed(1, keys), mixed(2, keys)} {
		_, _, x := made(t)
		must(t, walk.Fill(x, owned(l...)))
		wantTree(t, x, owns(keys...))
		wantPairs(t, x, len(keys), want)
	}
}

// TestFillWithAKeyTwice: the last one counts; and so it does in place of what was there.
func TestFillWithAKeyTwice(t *testing.T) {
	_, _, x := filled(t, 1, 2, 3)
	must(t, walk.Fill(x, []api.Pair{
		{Key: 2, Value: []byte("a")}, {Key: 9, Value: value(1, 900)}, {Key: 2, Value: []byte("b")}, {Key: 9, Value: []byte("c")}, {Key: 3},
	}))
	wantTree(t, x, map[int][]byte{1: own(1), 2: []byte("b"), 3: nil, 9: []byte("c")})
}

// TestFillOfNothing changes nothing.
func TestFillOfNothing(t *testing.T) {
	p, _, x := filled(t, 1, 2)
	wantUnchanged(t, p, func() {
		must(t, walk.Fill(x, nil))
		must(t, walk.Fill(x, []api.Pair{}))
	})
	wantTree(t, x, owns(1, 2))
}

// TestFillLeadsBack: of the pairs of a tree another one is made, that tells the same.
func TestFillLeadsBack(t *testing.T) {
	_, h, x := made(t)
	all := map[int][]byte{}
	for i, k := range mixed(9, each(11, -900, 900)) {
		all[k] = value(i, i*i%700)
		must(t, x.Put(k, all[k]))
	}
	l, e := walk.Pairs(x, math.MaxInt)
	must(t, e)
	y, e := tree.Make(h)
	must(t, e)
	must(t, walk.Fill(y, l))
	wantTree(t, y, all)
	wantTree(t, x, maps.Clone(all))
	wantPairs(t, y, len(all), l)
}
