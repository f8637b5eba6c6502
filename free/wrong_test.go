package free_test

import (
	"math"
	"testing"

	"hachure/api"
	"hachure/disk"
	"hachure/free"
	"hachure/pager"
)

func TestAHeapThatNoCallMade(t *testing.T) {
	var none *free.Heap
	for _, h := range []*free.Heap{none, {}} {
		for _, f := range append(faces(), wrongs()...) {
			wantRefused(t, "no call made it", f, h, api.ErrMade)
		}
		if h.Pager() != nil {
			t.Error("it has a pager")
		}
	}
}

func TestAPagerThatNoCallMade(t *testing.T) {
	var none *pager.Pager
	for _, p := range []*pager.Pager{none, {}} {
		h, e := free.Make(p)
		if h != nil || e != api.ErrMade {
			t.Errorf("Make: %v, %s", h, e)
		}
		h, e = free.Open(p)
		if h != nil || e != api.ErrMade {
			t.Errorf("Open: %v, %s", h, e)
		}
	}
}

// dead is a pager, and a heap over it, behind a loss of power within a commit.
func dead(t *testing.T) (*pager.Pager, *free.Heap) {
	t.Helper()
	d := disk.New(roomy)
	p := opened(t, d)
	must(t, p.Begin())
	h, e := free.Make(p)
	must(t, e)
	must(t, d.Arm(1, disk.Crash{}))
	wantErr(t, "Commit", p.Commit(), api.ErrPower)
	return p, h
}

func TestADeadPager(t *testing.T) {
	p, h := dead(t)
	for _, f := range append(faces(), wrongs()...) {
		wantRefused(t, "a dead pager", f, h, api.ErrPower)
	}
	if h.Pager() != p {
		t.Error("another pager")
	}
	if h, e := free.Make(p); h != nil || e != api.ErrPower {
		t.Errorf("Make: %v, %s", h, e)
	}
	if h, e := free.Open(p); h != nil || e != api.ErrPower {
		t.Errorf("Open: %v, %s", h, e)
	}
}

// TestADiskWithoutPower: the pager lives, but can not read what it has not cached.
func TestADiskWithoutPower(t *testing.T) {
	d := disk.New(roomy)
	p := opened(t, d)
	must(t, p.Begin())
	_, e := free.Make(p)
	must(t, e)
	wantTaken(t, mustOpen(t, p), 2)
	must(t, p.Commit())
	p = opened(t, d)
	h := mustOpen(t, p)
	must(t, p.Begin())
	// Other pages drive the root out of the cache.
	for range 20 {
		_, e := p.Grow()
		must(t, e)
	}
	must(t, p.Commit())
	for n := 2; n <= 20; n++ {
		_, e := p.Get(n)
		must(t, e)
	}
	must(t, p.Begin())
	d.Crash(disk.Crash{})
	for _, f := range append(faces(), wrongs()...) {
		wantRefused(t, "a disk without power", f, h, api.ErrPower)
	}
	if h, e := free.Open(p); h != nil || e != api.ErrPower {
		t.Errorf("Open: %v, %s", h, e)
	}
	must(t, p.Rollback())
	for _, f := range append(faces(), wrongs()...) {
		want := api.ErrPower
		if f.writes {
			want = api.ErrState
		}
		wantRefused(t, "nor a transaction", f, h, want)
	}
}

func mustOpen(t *testing.T, p *pager.Pager) *free.Heap {
	t.Helper()
	h, e := free.Open(p)
	must(t, e)
	return h
}

func TestOutOfATransaction(t *testing.T) {
	p, h := made(t, 4)
	given(t, h, 3)
	must(t, p.Commit())
	ahead := lookAt(t, p)
	for _, f := range append(faces(), wrongs()...) {
		if f.writes {
			wantRefused(t, "out of a transaction", f, h, api.ErrState)
		}
	}
	if lookAt(t, p) != ahead || p.Pages() != 4 {
		t.Error("something changed")
	}
	if h, e := free.Make(p); h != nil || e != api.ErrState {
		t.Errorf("Make: %v, %s", h, e)
	}
	empty := opened(t, disk.New(100))
	if h, e := free.Make(empty); h != nil || e != api.ErrState || empty.Pages() != 0 {
		t.Errorf("Make: %v, %s, %d pages", h, e, empty.Pages())
	}
}

func TestMakeWhereThereArePages(t *testing.T) {
	for _, n := range []int{1, 2, most} {
		p := begun(t)
		for range n {
			_, e := p.Grow()
			must(t, e)
		}
		ahead := lookAt(t, p)
		if h, e := free.Make(p); h != nil || e != api.ErrState {
			t.Errorf("Make where there are %d pages: %v, %s", n, h, e)
		}
		if lookAt(t, p) != ahead {
			t.Error("something changed")
		}
	}
}

func TestOpenOfNoRoot(t *testing.T) {
	d := disk.New(roomy)
	p := opened(t, d)
	if h, e := free.Open(p); h != nil || e != api.ErrBad {
		t.Errorf("Open without a page: %v, %s", h, e)
	}
	must(t, p.Begin())
	if h, e := free.Open(p); h != nil || e != api.ErrBad {
		t.Errorf("Open without a page, in a transaction: %v, %s", h, e)
	}
	_, e := p.Grow()
	must(t, e)
	if h, e := free.Open(p); h != nil || e != api.ErrBad {
		t.Errorf("Open of a page of noughts: %v, %s", h, e)
	}
	for i := range 8 {
		b := rootOf(0, 0)
		b[i] ^= 1
		must(t, p.Put(1, b))
		if h, e := free.Open(p); h != nil || e != api.ErrBad {
			t.Errorf("Open of a root whose byte %d is wrong: %v, %s", i, h, e)
		}
	}
	must(t, p.Put(1, rootOf(0, 0)))
	mustOpen(t, p)
}

// TestTheRootIsNoMore: of a heap whose pages were undone the pager's own error is told.
func TestTheRootIsNoMore(t *testing.T) {
	p, h := made(t, 3)
	must(t, p.Rollback())
	must(t, p.Begin())
	for _, f := range faces() {
		wantRefused(t, "no page at all", f, h, api.ErrRange)
	}
	if p.Pages() != 0 {
		t.Errorf("%d pages", p.Pages())
	}
}

// wantUnchanged does something that is refused.
func wantUnchanged(t *testing.T, p *pager.Pager, refused func()) {
	t.Helper()
	ahead := lookAt(t, p)
	refused()
	if lookAt(t, p) != ahead {
		t.Error("what was refused changed something")
	}
}

func TestGiveOfWhatIsNoPage(t *testing.T) {
	p, h := made(t, 5)
	given(t, h, 4)
	wantUnchanged(t, p, func() {
		for _, n := range []int{0, 1, -1, -2, math.MinInt, 6, 7, most, most + 1, 1<<32 + 2, math.MaxInt} {
			wantErr(t, "Give of no page", h.Give(n), api.ErrArg)
		}
	})
	given(t, h, 2, 5)
	wantFree(t, h, 4, 2, 5)
}

func TestWordsThatAreNot(t *testing.T) {
	p, h := made(t, 2)
	wantUnchanged(t, p, func() {
		for _, i := range []int{-1, 60, 61, 62, -2, 1 << 61, math.MaxInt, math.MinInt} {
			if n, e := h.Word(i); n != 0 || e != api.ErrRange {
				t.Errorf("Word(%d): %d, %s", i, n, e)
			}
			wantErr(t, "Set", h.Set(i, -1), api.ErrRange)
		}
	})
}

func TestTrimToWhatMayNotBe(t *testing.T) {
	p, h := made(t, 5)
	given(t, h, 4, 2)
	wantUnchanged(t, p, func() {
		for _, n := range []int{0, -1, math.MinInt, 6, most, math.MaxInt} {
			wantErr(t, "Trim", h.Trim(n), api.ErrRange)
		}
	})
	wantFree(t, h, 4, 2)
}

// brokenList is a list that may not be, in ten pages.
type brokenList struct {
	name  string
	root  []byte
	pages map[int][]byte
}

func brokenLists() []brokenList {
	many := span(3, 3+leaves-1)
	for i := range many {
		many[i] = 3
	}
	return []brokenList{
		{"the first trunk is beyond all", rootOf(11, 1), nil},
		{"it is as far as may be", rootOf(math.MaxUint32, 1), nil},
		{"it is the root", rootOf(1, 9), nil},
		{"the next one is beyond all", rootOf(2, 3), map[int][]byte{2: trunkOf(11, 3)}},
		{"the next one is the root", rootOf(2, 9), map[int][]byte{2: trunkOf(1, 3)}},
		{"a trunk behind leads beyond all", rootOf(2, 4), map[int][]byte{2: trunkOf(3), 3: trunkOf(4), 4: trunkOf(4000)}},
		{"the last leaf is beyond all", rootOf(2, 3), map[int][]byte{2: trunkOf(0, 3, 11)}},
		{"the first leaf is beyond all", rootOf(2, 3), map[int][]byte{2: trunkOf(0, math.MaxUint32, 3)}},
		{"a leaf is the root", rootOf(2, 3), map[int][]byte{2: trunkOf(0, 3, 1)}},
		{"a leaf is 0", rootOf(2, 3), map[int][]byte{2: trunkOf(0, 3, 0)}},
		{"a leaf behind is beyond all", rootOf(2, 5), map[int][]byte{2: trunkOf(4, 3), 4: trunkOf(0, 11)}},
		{"a count of 127", rootOf(2, 400), map[int][]byte{2: falseTrunk(0, leaves+1, many...)}},
		{"a count as great as may be", rootOf(2, math.MaxUint32), map[int][]byte{2: falseTrunk(0, math.MaxUint32, many...)}},
		{"a count of 127 behind", rootOf(2, 400), map[int][]byte{2: trunkOf(4, 3), 4: falseTrunk(0, leaves+1, many...)}},
		{"the root says none", rootOf(2, 0), map[int][]byte{2: trunkOf(0)}},
		{"the root says one less", rootOf(2, 2), map[int][]byte{2: trunkOf(0, 3, 4)}},
		{"the root says one less than a full trunk", rootOf(2, leaves), map[int][]byte{2: trunkOf(0, many...)}},
		{"more behind than the root says", rootOf(2, 3), map[int][]byte{2: trunkOf(4, 3), 4: trunkOf(0, 5)}},
		{"a trunk behind that the root does not count", rootOf(2, 2), map[int][]byte{2: trunkOf(4, 3), 4: trunkOf(0)}},
		{"a trunk leads to itself", rootOf(2, 3), map[int][]byte{2: trunkOf(2)}},
		{"it does, and the root says as many as may be", rootOf(2, math.MaxUint32), map[int][]byte{2: trunkOf(2)}},
		{"a trunk with leaves leads to itself", rootOf(2, math.MaxUint32), map[int][]byte{2: trunkOf(2, many...)}},
		{"two lead to one another", rootOf(2, 9), map[int][]byte{2: trunkOf(3, 4), 3: trunkOf(2)}},
		{"they do, behind another one", rootOf(2, math.MaxUint32), map[int][]byte{2: trunkOf(3), 3: trunkOf(4), 4: trunkOf(3)}},
		{"all nine go round", rootOf(2, 9), map[int][]byte{2: trunkOf(3), 3: trunkOf(4), 4: trunkOf(5), 5: trunkOf(6), 6: trunkOf(7), 7: trunkOf(8), 8: trunkOf(9), 9: trunkOf(10), 10: trunkOf(2)}},
	}
}

// broken is a heap of ten pages with that list.
func broken(t *testing.T, b brokenList) (*pager.Pager, *free.Heap) {
	t.Helper()
	p, h := made(t, 10)
	must(t, p.Put(1, b.root))
	for n, bytes := range b.pages {
		must(t, p.Put(n, bytes))
	}
	return p, h
}

func TestTrunksThatMayNotBe(t *testing.T) {
	for _, b := range brokenLists() {
		t.Run(b.name, func(t *testing.T) {
			p, h := broken(t, b)
			wantUnchanged(t, p, func() {
				for _, f := range append(faces(), wrongs()...) {
					if f.lists {
						wantRefused(t, b.name, f, h, api.ErrBad)
					}
				}
			})
		})
	}
}

// TestTheRootOfTrunksThatMayNotBe: calls that do not go over the list need no trunk.
func TestTheRootOfTrunksThatMayNotBe(t *testing.T) {
	for _, b := range brokenLists() {
		p, h := broken(t, b)
		must(t, h.Set(7, 70))
		wantWord(t, h, 7, 70)
		wantErr(t, "Set(60)", h.Set(60, 1), api.ErrRange)
		if _, e := h.Count(); e != api.OK {
			t.Errorf("Count: %s", e)
		}
		if again := mustOpen(t, p); again == nil {
			t.Error("no heap")
		}
	}
}

// TestErrorsOfATrunkOutOfATransaction: the pager's errors come ahead of those of trunks.
func TestErrorsOfATrunkOutOfATransaction(t *testing.T) {
	for _, b := range brokenLists() {
		p, h := broken(t, b)
		must(t, p.Commit())
		for _, f := range append(faces(), wrongs()...) {
			if f.lists && f.writes {
				wantRefused(t, b.name, f, h, api.ErrState)
			}
		}
		if l, e := h.All(); len(l) != 0 || e != api.ErrBad {
			t.Errorf("%s: All: %v, %s", b.name, l, e)
		}
	}
}
