package walk_test

import (
	"math"
	"slices"
	"testing"

	"hachure/api"
	"hachure/tree"
	"hachure/walk"
)

// TestRangesOfAllEnds: each from and to, at keys, between them and beyond.
func TestRangesOfAllEnds(t *testing.T) {
	keys := each(4, -40, 40)
	_, _, x := tall(t, mixed(1, keys)...)
	numbers := append(each(1, -45, 45), math.MinInt, math.MinInt+1, math.MaxInt-1, math.MaxInt)
	for _, from := range numbers {
		for _, to := range numbers {
			var want []int
			for _, k := range keys {
				if from <= k && k < to {
					want = append(want, k)
				}
			}
			wantRange(t, x, from, to, owned(want...))
		}
	}
}

// TestEndsThatAreTurnedRound: nothing lies between them.
func TestEndsThatAreTurnedRound(t *testing.T) {
	_, _, x := filled(t, math.MinInt, 1, 2, 3, math.MaxInt)
	for _, l := range [][2]int{{3, 1}, {2, 2}, {4, 0}, {1, -1}, {math.MaxInt, math.MinInt}, {math.MinInt, math.MinInt}, {math.MaxInt, math.MaxInt}, {0, math.MinInt}, {math.MaxInt, 0}} {
		wantRange(t, x, l[0], l[1], nil)
	}
	wantRange(t, x, math.MinInt, math.MinInt+1, owned(math.MinInt))
	wantRange(t, x, math.MaxInt-1, math.MaxInt, nil)
	wantRange(t, x, math.MinInt, math.MaxInt, owned(math.MinInt, 1, 2, 3))
}

// TestARangeIsLeftEarly, at each of its keys, and gone over again.
func TestARangeIsLeftEarly(t *testing.T) {
	keys := each(1, 1, 60)
	p, _, x := tall(t, keys...)
	seq := walk.Range(x, 1, 61)
	wantUnchanged(t, p, func() {
		for leave := range 61 {
			var met []int
			for k := range seq {
				met = append(met, k)
				if len(met) > leave {
					break
				}
			}
			if !slices.Equal(met, keys[:min(leave+1, 60)]) {
				t.Fatalf("met were %v", met)
			}
		}
	})
	// Nobody is told anything behind a no.
	calls := 0
	seq(func(int, []byte) bool {
		calls++
		return calls < 7
	})
	if calls != 7 {
		t.Errorf("%d calls", calls)
	}
}

// TestRangesAreNested: of one that was asked for once, too.
func TestRangesAreNested(t *testing.T) {
	_, _, x := filled(t, 1, 2, 3)
	seq := walk.Range(x, 1, 4)
	var met []int
	for a := range seq {
		for b := range seq {
			for c := range walk.Range(x, b, 4) {
				met = append(met, 100*a+10*b+c)
			}
		}
	}
	if !slices.Equal(met, []int{111, 112, 113, 122, 123, 133, 211, 212, 213, 222, 223, 233, 311, 312, 313, 322, 323, 333}) {
		t.Errorf("met were %v", met)
	}
}

// TestATreeThatChangesAsItIsTold: what comes ahead of the place counts, what goes does not.
func TestATreeThatChangesAsItIsTold(t *testing.T) {
	_, _, x := filled(t, 10, 20, 30, 40, 50)
	seq := walk.Range(x, 10, 60)
	// What is done behind the asking counts, too.
	must(t, x.Put(15, own(15)))
	var got []api.Pair
	for k, v := range seq {
		got = append(got, api.Pair{Key: k, Value: v})
		switch k {
		case 10:
			// Its own key, and one that was passed: neither is told again.
			take(t, x, 10)
			must(t, x.Put(5, own(5)))
			must(t, x.Put(9, own(9)))
		case 20:
			must(t, x.Put(20, []byte("late")))
			take(t, x, 30)
			must(t, x.Put(25, own(25)))
			must(t, x.Put(40, []byte("new")))
		case 40:
			must(t, x.Put(59, own(59)))
			must(t, x.Put(60, own(60)))
		}
	}
	want := []api.Pair{{Key: 10, Value: own(10)}, {Key: 15, Value: own(15)}, {Key: 20, Value: own(20)}, {Key: 25, Value: own(25)}, {Key: 40, Value: []byte("new")}, {Key: 50, Value: own(50)}, {Key: 59, Value: own(59)}}
	if !same(got, want) {
		t.Errorf("told were %v", keysOf(got))
	}
}

// take deletes a key that is there.
func take(t *testing.T, x *tree.Tree, key int) {
	t.Helper()
	if ok, e := x.Delete(key); !ok || e != api.OK {
		t.Fatalf("Delete(%d): %v, %s", key, ok, e)
	}
}

// TestARangeThatEmptiesItsTree ends behind the last key that is there.
func TestARangeThatEmptiesItsTree(t *testing.T) {
	keys := each(1, 1, 100)
	_, _, x := tall(t, keys...)
	var met []int
	for k := range walk.Range(x, 1, 101) {
		met = append(met, k)
		take(t, x, k)
		if k+1 <= 100 && k%3 == 0 {
			take(t, x, k+1)
		}
	}
	want := slices.DeleteFunc(keys, func(k int) bool { return k > 1 && k%3 == 1 })
	if !slices.Equal(met, want) {
		t.Errorf("met were %v", met)
	}
	wantTree(t, x, nil)
}

// TestARangeWhoseTreeIsDropped ends there.
func TestARangeWhoseTreeIsDropped(t *testing.T) {
	_, _, x := filled(t, 1, 2, 3)
	var met []int
	for k := range walk.Range(x, 1, 4) {
		met = append(met, k)
		if k == 2 {
			must(t, x.Drop())
		}
	}
	if !slices.Equal(met, []int{1, 2}) {
		t.Errorf("met were %v", met)
	}
}

// TestValuesAreAskedOneByOne: that of a key that is not told yet may be anything.
func TestValuesAreAskedOneByOne(t *testing.T) {
	p, _, x := filled(t, 1, 2, 3, 5)
	must(t, x.Put(4, value(4, 900)))
	for page := 3; page <= p.Pages(); page++ {
		spoil(t, p, page)
	}
	wantRange(t, x, 1, 4, owned(1, 2, 3))
	wantRange(t, x, 5, 9, owned(5))
	// It ends at the error.
	wantRange(t, x, 2, 9, owned(2, 3))
	wantRange(t, x, 4, 9, nil)
	wantPairs(t, x, 3, owned(1, 2, 3))
	wantNoPairs(t, "a chain that may not be", x, 4, api.ErrBad)
	wantNoPairs(t, "a chain that may not be", x, 5, api.ErrBad)
}

// TestWhatIsToldIsNewMemory: lists share nothing with the tree, or with one another.
func TestWhatIsToldIsNewMemory(t *testing.T) {
	_, _, x := made(t)
	all := map[int][]byte{1: []byte("one"), 2: value(2, 96), 3: value(3, 2000), 4: nil, 5: value(5, 40)}
	must(t, walk.Fill(x, rising(all)))
	spent := func(b []byte) {
		b = b[:cap(b)]
		for i := range b {
			b[i] ^= 255
		}
	}
	for _, v := range walk.Range(x, 1, 9) {
		spent(v)
	}
	wantRange(t, x, 1, 9, rising(all))
	l, e := walk.Pairs(x, 9)
	must(t, e)
	for i, p := range l {
		if !same(l[i:i+1], rising(all)[i:i+1]) {
			t.Errorf("the value of key %d was changed with another's", p.Key)
		}
		spent(p.Value)
	}
	clear(l[:cap(l)])
	wantPairs(t, x, 9, rising(all))
	wantTree(t, x, all)
}

func TestPairsOfAllCounts(t *testing.T) {
	keys := append(each(7, -210, 210), math.MaxInt)
	_, _, x := tall(t, mixed(5, keys)...)
	for _, n := range []int{math.MinInt, -1000, -2, -1, 0} {
		wantPairs(t, x, n, nil)
	}
	for n := range len(keys) + 3 {
		wantPairs(t, x, n, owned(keys[:min(n, len(keys))]...))
	}
	for _, n := range []int{1000, 1 << 31, 1 << 40, math.MaxInt - 1, math.MaxInt} {
		wantPairs(t, x, n, owned(keys...))
	}
}

// TestPairsLookNoFurther than those that are asked for.
func TestPairsLookNoFurther(t *testing.T) {
	p, _, x := tall(t, each(1, 1, 60)...)
	leaves := leavesOf(t, p, x)
	first := keysAt(t, p, leaves[0])
	spoil(t, p, leaves[1])
	wantPairs(t, x, len(first), owned(first...))
	wantNoPairs(t, "the second leaf may not be", x, len(first)+1, api.ErrBad)
	wantNoPairs(t, "the second leaf may not be", x, math.MaxInt, api.ErrBad)
	spoil(t, p, x.Root())
	wantPairs(t, x, 0, nil)
	wantPairs(t, x, -1, nil)
	wantNoPairs(t, "the root may not be", x, 1, api.ErrBad)
}
