package free_test

import (
	"bytes"
	"math"
	"slices"
	"testing"

	"hachure/api"
	"hachure/disk"
	"hachure/free"
	"hachure/pager"
)

func TestTheExample(t *testing.T) {
	_, h := made(t, 0)
	wantTaken(t, h, 2)
	given(t, h, 2)
	wantTaken(t, h, 2)
}

func TestMakeARoot(t *testing.T) {
	p := begun(t)
	h, e := free.Make(p)
	must(t, e)
	if p.Pages() != 1 || h.Pager() != p || free.Root != 1 {
		t.Errorf("%d pages, the root is %d, or another pager", p.Pages(), free.Root)
	}
	wantPage(t, p, 1, rootOf(0, 0))
	wantFree(t, h)
	for i := range words {
		wantWord(t, h, i, 0)
	}
}

func TestMakeWhereThereAreNoPagesAnyMore(t *testing.T) {
	p, h := made(t, 5)
	given(t, h, 3, 4)
	must(t, h.Set(0, 9))
	must(t, p.Shrink(0))
	again, e := free.Make(p)
	must(t, e)
	wantPage(t, p, 1, rootOf(0, 0))
	wantFree(t, again)
	// Both are heaps of the one pager.
	wantTaken(t, again, 2)
	given(t, again, 2)
	wantFree(t, h, 2)
}

func TestOpenWhatWasCommitted(t *testing.T) {
	d := disk.New(roomy)
	p := opened(t, d)
	must(t, p.Begin())
	h, e := free.Make(p)
	must(t, e)
	wantTaken(t, h, span(2, 300)...)
	given(t, h, span(20, 280)...)
	must(t, h.Set(0, -5))
	must(t, h.Set(59, 77))
	must(t, p.Commit())
	want, e := h.All()
	must(t, e)
	for range 2 {
		p = opened(t, d)
		h, e = free.Open(p)
		must(t, e)
		if h.Pager() != p {
			t.Error("another pager")
		}
		wantFree(t, h, want...)
		wantWord(t, h, 0, -5)
		wantWord(t, h, 59, 77)
	}
	must(t, p.Begin())
	wantTaken(t, h, 280)
}

func TestOpenWithinATransaction(t *testing.T) {
	p, h := made(t, 4)
	given(t, h, 4, 2)
	must(t, h.Set(3, 8))
	again, e := free.Open(p)
	must(t, e)
	wantFree(t, again, 4, 2)
	wantWord(t, again, 3, 8)
}

// TestOpenAsksForTheNameAlone: what the list is like is asked by those who go over it.
func TestOpenAsksForTheNameAlone(t *testing.T) {
	p, _ := made(t, 2)
	must(t, p.Put(1, rootOf(99, 3, 5)))
	h, e := free.Open(p)
	must(t, e)
	wantWord(t, h, 0, 5)
	if n, e := h.Count(); n != 3 || e != api.OK {
		t.Errorf("Count: %d, %s", n, e)
	}
}

func TestTheBytesOfTheList(t *testing.T) {
	p, h := made(t, 600)
	must(t, p.Put(300, mark(1)))
	given(t, h, 300)
	wantPage(t, p, 1, rootOf(300, 1))
	wantPage(t, p, 300, trunkOf(0))
	must(t, p.Put(599, mark(2)))
	given(t, h, 599, 2)
	wantPage(t, p, 1, rootOf(300, 3))
	wantPage(t, p, 300, trunkOf(0, 599, 2))
	wantPage(t, p, 599, mark(2))
	must(t, h.Set(1, 4))
	wantPage(t, p, 1, rootOf(300, 3, 0, 4))
	wantTaken(t, h, 2)
	wantPage(t, p, 1, rootOf(300, 2, 0, 4))
	wantPage(t, p, 300, trunkOf(0, 599))
	wantTaken(t, h, 599)
	wantPage(t, p, 300, trunkOf(0))
	wantPage(t, p, 1, rootOf(300, 1, 0, 4))
	wantTaken(t, h, 300)
	wantPage(t, p, 1, rootOf(0, 0, 0, 4))
}

// TestBytesThatOthersLaid: what the form says is read, whoever wrote it.
func TestBytesThatOthersLaid(t *testing.T) {
	p, _ := made(t, 10)
	must(t, p.Put(1, rootOf(5, 6, -1)))
	must(t, p.Put(5, trunkOf(9, 3, 2)))
	must(t, p.Put(9, trunkOf(7)))
	must(t, p.Put(7, trunkOf(0, 4)))
	h, e := free.Open(p)
	must(t, e)
	wantFree(t, h, 5, 3, 2, 9, 7, 4)
	wantWord(t, h, 0, -1)
	wantTaken(t, h, 2, 3, 5, 9, 4, 7, 11)
	wantFree(t, h)
}

func TestNoneFree(t *testing.T) {
	p, h := made(t, 0)
	wantFree(t, h)
	wantTaken(t, h, 2, 3, 4)
	wantFree(t, h)
	if p.Pages() != 4 {
		t.Errorf("%d pages", p.Pages())
	}
}

func TestOneFree(t *testing.T) {
	p, h := made(t, 4)
	must(t, p.Put(3, mark(3)))
	given(t, h, 3)
	wantFree(t, h, 3)
	wantTaken(t, h, 3, 5)
	wantFree(t, h)
}

func TestATrunkThatIsFull(t *testing.T) {
	p, h := made(t, 200)
	given(t, h, span(2, 2+leaves-1)...)
	wantPage(t, p, 1, rootOf(2, leaves))
	wantPage(t, p, 2, trunkOf(0, span(3, 2+leaves-1)...))
	given(t, h, 2+leaves)
	full := trunkOf(0, span(3, 2+leaves)...)
	wantPage(t, p, 1, rootOf(2, leaves+1))
	wantPage(t, p, 2, full)
	wantFree(t, h, span(2, 2+leaves)...)
	must(t, p.Put(150, mark(1)))
	given(t, h, 150)
	wantPage(t, p, 1, rootOf(150, leaves+2))
	wantPage(t, p, 150, trunkOf(2))
	wantPage(t, p, 2, full)
	wantFree(t, h, append([]int{150}, span(2, 2+leaves)...)...)
	given(t, h, 151)
	wantPage(t, p, 150, trunkOf(2, 151))
	wantTaken(t, h, 151, 150)
	wantPage(t, p, 1, rootOf(2, leaves+1))
	wantPage(t, p, 2, full)
	wantTaken(t, h, falling(2+leaves, 3)...)
	wantPage(t, p, 2, trunkOf(0))
	wantFree(t, h, 2)
	wantTaken(t, h, 2, 201)
}

func TestSeveralTrunks(t *testing.T) {
	p, h := made(t, 600)
	given(t, h, span(2, 2+3*127)...)
	// Each trunk is the first page behind the full one ahead.
	a, b, c, d := 2, 129, 256, 383
	want := slices.Concat(span(d, d), span(c, d-1), span(b, c-1), span(a, b-1))
	wantFree(t, h, want...)
	wantPage(t, p, d, trunkOf(c))
	wantPage(t, p, c, trunkOf(b, span(c+1, d-1)...))
	wantPage(t, p, b, trunkOf(a, span(b+1, c-1)...))
	wantTaken(t, h, slices.Concat(span(d, d), falling(d-1, c+1), span(c, c), falling(c-1, b+1), span(b, b), falling(b-1, a+1), span(a, a))...)
	wantFree(t, h)
}

func TestWhatIsTakenIsOfNoughts(t *testing.T) {
	p, h := made(t, 140)
	for n := 2; n <= 140; n++ {
		must(t, p.Put(n, mark(n)))
	}
	given(t, h, falling(140, 2)...)
	// wantTaken asks for noughts: of leaves, of trunks, and of a new page.
	wantTaken(t, h, slices.Concat(span(2, 12), span(13, 13), span(14, 139), span(140, 140), span(141, 141))...)
}

// TestAPageIsTakenThatWasWrittenTo: what is free is nobody's, yet a leaf's bytes may be any.
func TestAPageIsTakenThatWasWrittenTo(t *testing.T) {
	p, h := made(t, 4)
	given(t, h, 2, 3)
	must(t, p.Put(3, mark(3)))
	wantTaken(t, h, 3)
}

func TestOtherPagesStay(t *testing.T) {
	p, h := made(t, 300)
	for n := 2; n <= 300; n++ {
		must(t, p.Put(n, mark(n)))
	}
	for n := 2; n <= 300; n += 2 {
		given(t, h, n)
	}
	for range 40 {
		_, e := h.Take()
		must(t, e)
	}
	for n := 3; n <= 300; n += 2 {
		wantPage(t, p, n, mark(n))
	}
}

func TestWords(t *testing.T) {
	p, h := made(t, 3)
	given(t, h, 3)
	numbers := []int{0, 1, -1, math.MaxInt, math.MinInt, 1 << 32, -1 << 40}
	var all []int
	for i := range words {
		all = append(all, numbers[i%len(numbers)])
		must(t, h.Set(i, all[i]))
	}
	for i := range words {
		wantWord(t, h, i, all[i])
	}
	for _, i := range []int{0, 59} {
		for _, n := range numbers {
			must(t, h.Set(i, n))
			wantWord(t, h, i, n)
			all[i] = n
		}
	}
	wantPage(t, p, 1, rootOf(3, 1, all...))
	wantFree(t, h, 3)
}

func TestWordsStayAsPagesAreTakenAndGiven(t *testing.T) {
	_, h := made(t, 200)
	for i := range words {
		must(t, h.Set(i, -i))
	}
	given(t, h, span(2, 200)...)
	wantTaken(t, h, 200)
	must(t, h.Trim(100))
	for i := range words {
		wantWord(t, h, i, -i)
	}
}

func TestTakeAtMaxPages(t *testing.T) {
	p, h := made(t, most)
	ahead := lookAt(t, p)
	for range 2 {
		if n, e := h.Take(); n != 0 || e != api.ErrFull {
			t.Errorf("Take: %d, %s", n, e)
		}
	}
	if lookAt(t, p) != ahead {
		t.Error("something changed")
	}
	given(t, h, most, 2)
	wantTaken(t, h, 2, most)
	if n, e := h.Take(); n != 0 || e != api.ErrFull {
		t.Errorf("Take: %d, %s", n, e)
	}
}

// TestAllPagesFree: no list is longer.
func TestAllPagesFree(t *testing.T) {
	p, h := made(t, most)
	given(t, h, span(2, most)...)
	all, e := h.All()
	must(t, e)
	slices.Sort(all)
	if !slices.Equal(all, span(2, most)) {
		t.Errorf("%d pages are free, or one is twice", len(all))
	}
	must(t, h.Trim(1))
	wantFree(t, h)
	if p.Pages() != 1 {
		t.Errorf("%d pages", p.Pages())
	}
}

// TestTrunksWithoutLeaves: as many trunks as there are pages but the root are no list that leads back into itself.
func TestTrunksWithoutLeaves(t *testing.T) {
	p, h := made(t, 6)
	must(t, p.Put(1, rootOf(6, 5)))
	for n := 6; n >= 3; n-- {
		must(t, p.Put(n, trunkOf(n-1)))
	}
	must(t, p.Put(2, trunkOf(0)))
	wantFree(t, h, 6, 5, 4, 3, 2)
	wantTaken(t, h, 6, 5, 4, 3, 2, 7)
}

// TestGiveAsksNotWhetherItIsFree: it is free twice then.
func TestGiveAsksNotWhetherItIsFree(t *testing.T) {
	p, h := made(t, 3)
	given(t, h, 2, 3, 3, 2, 2)
	wantFree(t, h, 2, 3, 3, 2, 2)
	must(t, h.Trim(2))
	wantFree(t, h, 2, 2, 2)
	if p.Pages() != 2 {
		t.Errorf("%d pages", p.Pages())
	}
}

// TestLessThanTheRootSays is no error: whoever checks a database holds one against the other.
func TestLessThanTheRootSays(t *testing.T) {
	p, h := made(t, 5)
	must(t, p.Put(1, rootOf(0, 4)))
	if n, e := h.Count(); n != 4 || e != api.OK {
		t.Errorf("Count: %d, %s", n, e)
	}
	if l, e := h.All(); len(l) != 0 || e != api.OK {
		t.Errorf("All: %v, %s", l, e)
	}
	wantTaken(t, h, 6)
	must(t, p.Put(1, rootOf(3, math.MaxUint32)))
	must(t, p.Put(3, trunkOf(0, 4)))
	if n, e := h.Count(); n != math.MaxUint32 || e != api.OK {
		t.Errorf("Count: %d, %s", n, e)
	}
	if l, e := h.All(); !slices.Equal(l, []int{3, 4}) || e != api.OK {
		t.Errorf("All: %v, %s", l, e)
	}
	wantErr(t, "Give where the root can say no more", h.Give(5), api.ErrBad)
	wantTaken(t, h, 4)
	must(t, h.Trim(6))
	wantFree(t, h, 3)
}

func TestTrim(t *testing.T) {
	cases := []struct {
		name  string
		given []int
		to    int
		want  []int
	}{
		{"none free, to all", nil, 9, nil},
		{"none free, to some", nil, 4, nil},
		{"none free, to the root", nil, 1, nil},
		{"to all", []int{7, 3, 9, 2}, 9, []int{2, 3, 7, 9}},
		{"the last one stays", []int{7, 3, 9, 2}, 8, []int{2, 3, 7}},
		{"all above are free", []int{9, 4, 8, 7}, 6, []int{4}},
		{"some above are not", []int{9, 5, 3, 7}, 5, []int{3, 5}},
		{"none above are", []int{3, 2}, 4, []int{2, 3}},
		{"the trunk goes", []int{9, 2, 3}, 3, []int{2, 3}},
		{"all that are free go", []int{9, 8, 7}, 6, nil},
		{"to the root", []int{9, 8, 2, 3}, 1, nil},
		{"to two", []int{9, 8, 2, 3}, 2, []int{2}},
	}
	for _, c := range cases {
		t.Run(c.name, func(t *testing.T) {
			p, h := made(t, 9)
			must(t, h.Set(5, 55))
			given(t, h, c.given...)
			must(t, h.Trim(c.to))
			wantFree(t, h, c.want...)
			wantWord(t, h, 5, 55)
			if p.Pages() != c.to {
				t.Errorf("%d pages, want %d", p.Pages(), c.to)
			}
			if n := len(c.want); n > 0 {
				wantPage(t, p, 1, rootOf(c.want[0], n, 0, 0, 0, 0, 0, 55))
				wantPage(t, p, c.want[0], trunkOf(0, c.want[1:]...))
			} else {
				wantPage(t, p, 1, rootOf(0, 0, 0, 0, 0, 0, 0, 55))
			}
		})
	}
}

func TestTrimLeavesPagesThatAreNotFree(t *testing.T) {
	p, h := made(t, 9)
	for n := 2; n <= 9; n++ {
		must(t, p.Put(n, mark(n)))
	}
	given(t, h, 8, 4, 2)
	must(t, h.Trim(7))
	for _, n := range []int{3, 5, 6, 7} {
		wantPage(t, p, n, mark(n))
	}
	wantTaken(t, h, 4, 2, 8)
}

// TestTrimOfManyIsAsGiveMakesIt: trunk by trunk, byte for byte.
func TestTrimOfManyIsAsGiveMakesIt(t *testing.T) {
	for _, to := range []int{600, 599, 383, 382, 257, 256, 255, 129, 128, 127} {
		p, h := made(t, 600)
		given(t, h, falling(600, 2)...)
		must(t, h.Trim(to))
		q, want := made(t, to)
		given(t, want, span(2, to)...)
		all, e := want.All()
		must(t, e)
		wantFree(t, h, all...)
		wantPage(t, p, 1, rootOf(2+(to-2)/127*127, to-1))
		for n := 2; n <= to; n += 127 {
			b, e := q.Get(n)
			must(t, e)
			wantPage(t, p, n, b)
		}
	}
}

func TestRollbackAndUndo(t *testing.T) {
	p, h := made(t, 9)
	given(t, h, 4, 6)
	must(t, h.Set(2, 22))
	must(t, p.Commit())
	change := func() {
		t.Helper()
		wantTaken(t, h, 6, 4, 10)
		given(t, h, 3, 2)
		must(t, h.Set(2, 0))
		must(t, h.Trim(2))
		wantFree(t, h, 2)
	}
	must(t, p.Begin())
	change()
	must(t, p.Rollback())
	wantFree(t, h, 4, 6)
	wantWord(t, h, 2, 22)
	must(t, p.Begin())
	m, e := p.Mark()
	must(t, e)
	change()
	must(t, p.Undo(m))
	wantFree(t, h, 4, 6)
	wantWord(t, h, 2, 22)
	if p.Pages() != 9 {
		t.Errorf("%d pages", p.Pages())
	}
	change()
	must(t, p.Commit())
	wantFree(t, h, 2)
	wantWord(t, h, 2, 0)
}

func TestReadingIsForNoTransaction(t *testing.T) {
	p, h := made(t, 4)
	given(t, h, 3)
	must(t, h.Set(0, 6))
	must(t, p.Commit())
	wantFree(t, h, 3)
	wantWord(t, h, 0, 6)
	if h.Pager() != p {
		t.Error("another pager")
	}
	must(t, p.Begin())
	wantFree(t, h, 3)
	if len(p.Changed()) != 0 {
		t.Errorf("what reads changed %v", p.Changed())
	}
	must(t, p.Rollback())
}

func TestAnswersAreNewMemory(t *testing.T) {
	_, h := made(t, 200)
	given(t, h, span(2, 200)...)
	a, e := h.All()
	must(t, e)
	b, e := h.All()
	must(t, e)
	for i := range a {
		a[i] = 1
	}
	a = append(a, 1)
	c, e := h.All()
	must(t, e)
	if !slices.Equal(b, c) || slices.Contains(b, 1) {
		t.Error("two answers share memory")
	}
}

// TestNoPageIsTakenTwice: P8.4, with pages that come and go in no order.
func TestNoPageIsTakenTwice(t *testing.T) {
	p, h := made(t, 0)
	mine := map[int]bool{}
	s := &dice{seed: 5}
	for round := range 40 {
		for range s.under(200) {
			n, e := h.Take()
			must(t, e)
			if mine[n] || n < 2 || n > p.Pages() {
				t.Fatalf("round %d: page %d is taken twice, or is none", round, n)
			}
			mine[n] = true
		}
		for n := range p.Pages() + 1 {
			if mine[n] && s.under(3) > 0 {
				given(t, h, n)
				delete(mine, n)
			}
		}
		n, e := h.Count()
		must(t, e)
		if n+len(mine)+1 != p.Pages() {
			t.Fatalf("%d are free, %d are taken, of %d", n, len(mine), p.Pages())
		}
	}
	if p.Pages() > 1500 {
		t.Errorf("%d pages: what was given is not taken again", p.Pages())
	}
}

func TestTheSameCallsTellTheSame(t *testing.T) {
	run := func() []byte {
		d := disk.New(roomy)
		p, e := pager.Open(d, 8)
		must(t, e)
		must(t, p.Begin())
		h, e := free.Make(p)
		must(t, e)
		wantTaken(t, h, span(2, 400)...)
		given(t, h, falling(390, 100)...)
		must(t, h.Trim(250))
		must(t, p.Commit())
		b, e := d.Read(disk.Data, 0, d.Sectors(disk.Data))
		must(t, e)
		return b
	}
	if !bytes.Equal(run(), run()) {
		t.Error("two files that were done the same to differ")
	}
}
