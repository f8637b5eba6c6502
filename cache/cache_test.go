package cache_test

import (
	"bytes"
	"math"
	"slices"
	"testing"

	"hachure/api"
	"hachure/cache"
)

const size = api.PageSize

// filled is a page's bytes, that begin and end with other ones than they are filled with.
func filled(c byte) []byte {
	b := bytes.Repeat([]byte{c}, size)
	b[0], b[size-1] = c+1, c+2
	return b
}

func wantErr(t *testing.T, what string, got, want api.Errno) {
	t.Helper()
	if got != want {
		t.Errorf("%s: %s, want %s", what, got, want)
	}
}

func must(t *testing.T, e api.Errno) {
	t.Helper()
	if e != api.OK {
		t.Fatalf("an error: %s", e)
	}
}

// wantOrder holds which pages are here, as they were used, against what is wanted.
func wantOrder(t *testing.T, c *cache.Cache, want ...int) {
	t.Helper()
	if got := c.Order(); !slices.Equal(got, want) {
		t.Errorf("the order is %v, want %v", got, want)
	}
	if got := c.Len(); got != len(want) {
		t.Errorf("%d pages, want %d", got, len(want))
	}
}

func wantDirty(t *testing.T, c *cache.Cache, want ...int) {
	t.Helper()
	if got := c.Dirty(); !slices.Equal(got, want) {
		t.Errorf("dirty are %v, want %v", got, want)
	}
}

func wantHits(t *testing.T, c *cache.Cache, found, missed int) {
	t.Helper()
	if f, m := c.Hits(); f != found || m != missed {
		t.Errorf("hits %d and %d, want %d and %d", f, m, found, missed)
	}
}

// wantPins holds the pins of the pages 1, 2, .. against what is wanted.
func wantPins(t *testing.T, c *cache.Cache, want ...int) {
	t.Helper()
	for i, n := range want {
		if got := c.Pins(i + 1); got != n {
			t.Errorf("page %d has %d pins, want %d", i+1, got, n)
		}
	}
}

// wantPage holds a page's bytes against what is wanted, without using it.
func wantPage(t *testing.T, c *cache.Cache, page int, want []byte) {
	t.Helper()
	if b, ok := c.Peek(page); !ok || !bytes.Equal(b, want) {
		t.Errorf("Peek of %d: %v, %d bytes, or other ones", page, ok, len(b))
	}
}

// with is a cache of that room that these pages were put into, each filled with its number.
func with(t *testing.T, room int, pages ...int) *cache.Cache {
	t.Helper()
	c := cache.New(room)
	for _, page := range pages {
		must(t, c.Put(page, filled(byte(page))))
	}
	return c
}

// pinned gives each of these pages a pin.
func pinned(t *testing.T, c *cache.Cache, pages ...int) {
	t.Helper()
	for _, page := range pages {
		must(t, c.Pin(page))
	}
}

// marked makes these pages dirty.
func marked(t *testing.T, c *cache.Cache, pages ...int) {
	t.Helper()
	for _, page := range pages {
		must(t, c.Mark(page, true))
	}
}

func TestNewRooms(t *testing.T) {
	for _, room := range []int{math.MinInt, -4096, -1, 0, 4097, 5000, math.MaxInt} {
		if cache.New(room) != nil {
			t.Errorf("a cache for %d pages", room)
		}
	}
	for _, room := range []int{1, 2, 8, 100, 4095, 4096} {
		c := cache.New(room)
		if c == nil {
			t.Fatalf("no cache for %d pages", room)
		}
		wantOrder(t, c)
		wantDirty(t, c)
		wantHits(t, c, 0, 0)
	}
}

func TestTheExample(t *testing.T) {
	c := with(t, 2, 1, 2)
	if _, ok := c.Get(1); !ok {
		t.Error("1 is not here")
	}
	must(t, c.Put(3, filled(3)))
	if _, ok := c.Peek(2); ok {
		t.Error("2 is here")
	}
	wantOrder(t, c, 1, 3)
}

func TestRoomForOne(t *testing.T) {
	c := with(t, 1, 1)
	wantOrder(t, c, 1)
	must(t, c.Put(2, filled(2)))
	wantOrder(t, c, 2)
	wantPage(t, c, 2, filled(2))
	must(t, c.Put(2, filled(9)))
	wantOrder(t, c, 2)
	wantPage(t, c, 2, filled(9))
	pinned(t, c, 2)
	must(t, c.Put(3, filled(3)))
	wantOrder(t, c, 2, 3)
	must(t, c.Put(4, filled(4)))
	wantOrder(t, c, 2, 4)
}

func TestEachRoomIsFilledWhole(t *testing.T) {
	for _, room := range []int{1, 2, 3, 100, 4095, 4096} {
		c := cache.New(room)
		var want []int
		for page := 1; page <= room; page++ {
			must(t, c.Put(page, filled(byte(page))))
			want = append(want, page)
		}
		wantOrder(t, c, want...)
		must(t, c.Put(math.MaxInt, filled(7)))
		wantOrder(t, c, append(want[1:], math.MaxInt)...)
		wantPage(t, c, math.MaxInt, filled(7))
		must(t, c.Put(1, filled(1)))
		if c.Len() != room {
			t.Errorf("%d pages in a room for %d", c.Len(), room)
		}
	}
}

func TestPutUses(t *testing.T) {
	c := with(t, 3, 1, 2, 3)
	must(t, c.Put(1, filled(1)))
	wantOrder(t, c, 2, 3, 1)
	must(t, c.Put(3, filled(3)))
	wantOrder(t, c, 2, 1, 3)
	must(t, c.Put(3, filled(3)))
	wantOrder(t, c, 2, 1, 3)
	must(t, c.Put(4, filled(4)))
	wantOrder(t, c, 1, 3, 4)
}

func TestPutOfAPageThatIsHere(t *testing.T) {
	c := with(t, 3, 1, 2, 3)
	pinned(t, c, 1, 1)
	marked(t, c, 1)
	must(t, c.Put(1, filled(99)))
	wantPage(t, c, 1, filled(99))
	wantPage(t, c, 2, filled(2))
	wantPins(t, c, 2, 0, 0)
	wantDirty(t, c, 1)
	wantOrder(t, c, 2, 3, 1)
	must(t, c.Mark(1, false))
	must(t, c.Put(1, filled(98)))
	wantDirty(t, c)
	must(t, c.Free(1))
	must(t, c.Put(1, filled(97)))
	wantPins(t, c, 1)
	wantHits(t, c, 0, 0)
}

func TestAPageThatWasGoneHasNeitherPinsNorMark(t *testing.T) {
	c := with(t, 3, 1, 2, 3)
	pinned(t, c, 1)
	marked(t, c, 1, 2)
	must(t, c.Free(1))
	must(t, c.Drop(1))
	must(t, c.Drop(2))
	must(t, c.Put(1, filled(1)))
	must(t, c.Put(2, filled(2)))
	wantPins(t, c, 0, 0, 0)
	wantDirty(t, c)
	marked(t, c, 3)
	if n := c.Clear(); n != 3 {
		t.Errorf("%d pages are gone, want 3", n)
	}
	must(t, c.Put(3, filled(3)))
	wantDirty(t, c)
}

func TestPinnedAndDirtyPagesStay(t *testing.T) {
	c := with(t, 4, 1, 2, 3, 4)
	pinned(t, c, 1)
	marked(t, c, 3)
	must(t, c.Put(5, filled(5)))
	wantOrder(t, c, 1, 3, 4, 5)
	must(t, c.Put(6, filled(6)))
	wantOrder(t, c, 1, 3, 5, 6)
	for page := 7; page < 20; page++ {
		must(t, c.Put(page, filled(byte(page))))
		wantOrder(t, c, 1, 3, page-1, page)
	}
	wantPage(t, c, 1, filled(1))
	wantPage(t, c, 3, filled(3))
	must(t, c.Free(1))
	must(t, c.Put(20, filled(20)))
	wantOrder(t, c, 3, 18, 19, 20)
	must(t, c.Mark(3, false))
	must(t, c.Put(21, filled(21)))
	wantOrder(t, c, 18, 19, 20, 21)
}

func TestAPageWithOneOfTwoPinsStays(t *testing.T) {
	c := with(t, 1, 1)
	pinned(t, c, 1, 1)
	must(t, c.Free(1))
	must(t, c.Put(2, filled(2)))
	wantOrder(t, c, 1, 2)
	marked(t, c, 1)
	must(t, c.Free(1))
	must(t, c.Put(3, filled(3)))
	wantOrder(t, c, 1, 3)
	pinned(t, c, 1)
	must(t, c.Mark(1, false))
	must(t, c.Put(4, filled(4)))
	wantOrder(t, c, 1, 4)
	must(t, c.Free(1))
	must(t, c.Put(5, filled(5)))
	wantOrder(t, c, 5)
}

func TestPutWhereAllOthersStay(t *testing.T) {
	c := with(t, 2, 1, 2)
	pinned(t, c, 1)
	marked(t, c, 2)
	must(t, c.Put(3, filled(3)))
	wantOrder(t, c, 1, 2, 3)
	must(t, c.Put(3, filled(4)))
	wantOrder(t, c, 1, 2, 3)
	wantPage(t, c, 3, filled(4))
	marked(t, c, 3)
	must(t, c.Put(4, filled(4)))
	wantOrder(t, c, 1, 2, 3, 4)
	must(t, c.Put(5, filled(5)))
	wantOrder(t, c, 1, 2, 3, 5)
	must(t, c.Put(1, filled(1)))
	wantOrder(t, c, 2, 3, 1)
}

func TestPutBehindWhichSeveralGo(t *testing.T) {
	c := with(t, 3, 1, 2, 3)
	marked(t, c, 1, 2, 3)
	for page := 4; page <= 8; page++ {
		must(t, c.Put(page, filled(byte(page))))
		marked(t, c, page)
	}
	wantOrder(t, c, 1, 2, 3, 4, 5, 6, 7, 8)
	pinned(t, c, 4)
	for page := 1; page <= 8; page++ {
		must(t, c.Mark(page, page == 2))
	}
	// By themselves they go behind a Put alone.
	wantOrder(t, c, 1, 2, 3, 4, 5, 6, 7, 8)
	other := c.Copy()
	must(t, c.Put(9, filled(9)))
	wantOrder(t, c, 2, 4, 9)
	// A Put of a page that is here lets others go, too.
	must(t, other.Put(6, filled(66)))
	wantOrder(t, other, 2, 4, 6)
	wantPage(t, other, 6, filled(66))
}

func TestSeveralGoOnlyAsLongAsThereAreTooMany(t *testing.T) {
	c := with(t, 4, 1, 2, 3, 4)
	pinned(t, c, 1, 2, 3, 4)
	must(t, c.Put(5, filled(5)))
	pinned(t, c, 5)
	must(t, c.Put(6, filled(6)))
	for page := 1; page <= 5; page++ {
		must(t, c.Free(page))
	}
	wantOrder(t, c, 1, 2, 3, 4, 5, 6)
	if _, ok := c.Get(2); !ok {
		t.Error("2 is not here")
	}
	wantOrder(t, c, 1, 3, 4, 5, 6, 2)
	must(t, c.Put(7, filled(7)))
	wantOrder(t, c, 5, 6, 2, 7)
}

func TestGetUsesAndPeekDoesNot(t *testing.T) {
	c := with(t, 3, 1, 2, 3)
	b, ok := c.Get(1)
	if !ok || !bytes.Equal(b, filled(1)) {
		t.Errorf("Get of 1: %v, %d bytes", ok, len(b))
	}
	wantOrder(t, c, 2, 3, 1)
	wantPage(t, c, 2, filled(2))
	wantOrder(t, c, 2, 3, 1)
	must(t, c.Put(4, filled(4)))
	wantOrder(t, c, 3, 1, 4)
	b, ok = c.Get(4)
	if !ok || !bytes.Equal(b, filled(4)) {
		t.Errorf("Get of 4: %v, %d bytes", ok, len(b))
	}
	wantOrder(t, c, 3, 1, 4)
	c.Get(1)
	wantOrder(t, c, 3, 4, 1)
	for _, page := range []int{2, 5, 0, -1, math.MinInt, math.MaxInt} {
		if b, ok := c.Get(page); ok || len(b) != 0 {
			t.Errorf("Get of %d: %v, %d bytes", page, ok, len(b))
		}
		if b, ok := c.Peek(page); ok || len(b) != 0 {
			t.Errorf("Peek of %d: %v, %d bytes", page, ok, len(b))
		}
	}
	wantOrder(t, c, 3, 4, 1)
}

func TestHits(t *testing.T) {
	c := with(t, 2, 1, 2)
	wantHits(t, c, 0, 0)
	c.Get(1)
	wantHits(t, c, 1, 0)
	c.Get(3)
	wantHits(t, c, 1, 1)
	c.Peek(1)
	c.Peek(3)
	wantHits(t, c, 1, 1)
	for _, page := range []int{0, -1, math.MinInt, math.MaxInt} {
		c.Get(page)
	}
	wantHits(t, c, 1, 5)
	must(t, c.Put(3, filled(3)))
	c.Get(2)
	wantHits(t, c, 1, 6)
	c.Get(3)
	c.Get(3)
	wantHits(t, c, 3, 6)
	c.Pins(1)
	c.Pin(8)
	c.Drop(8)
	c.Order()
	c.Hits()
	wantHits(t, c, 3, 6)
	c.Clear()
	wantHits(t, c, 3, 6)
	c.Get(3)
	wantHits(t, c, 3, 7)
}

func TestOnlyPutAndGetUse(t *testing.T) {
	c := with(t, 4, 1, 2, 3, 4)
	pinned(t, c, 1, 2)
	must(t, c.Free(1))
	marked(t, c, 1, 3)
	must(t, c.Mark(1, false))
	c.Pins(1)
	c.Peek(1)
	c.Dirty()
	c.Order()
	c.Copy()
	c.Free(1)
	c.Drop(2)
	c.Put(1, nil)
	wantOrder(t, c, 1, 2, 3, 4)
}

func TestPinsAndFree(t *testing.T) {
	c := with(t, 3, 1, 2)
	wantPins(t, c, 0, 0, 0)
	wantErr(t, "Free of a page without pins", c.Free(1), api.ErrState)
	for n := 1; n <= 100; n++ {
		must(t, c.Pin(1))
		wantPins(t, c, n, 0)
	}
	for n := 99; n >= 0; n-- {
		must(t, c.Free(1))
		wantPins(t, c, n, 0)
	}
	wantErr(t, "one Free too many", c.Free(1), api.ErrState)
	wantErr(t, "and another", c.Free(1), api.ErrState)
	wantPins(t, c, 0, 0)
	must(t, c.Pin(1))
	wantPins(t, c, 1, 0)
	for _, page := range []int{0, -1, 3, math.MinInt, math.MaxInt} {
		if n := c.Pins(page); n != 0 {
			t.Errorf("page %d has %d pins", page, n)
		}
	}
}

func TestMarkAndDirty(t *testing.T) {
	c := with(t, 9, 7, 3, 9, 1, 5)
	wantDirty(t, c)
	marked(t, c, 9, 1, 7)
	wantDirty(t, c, 1, 7, 9)
	marked(t, c, 7)
	wantDirty(t, c, 1, 7, 9)
	must(t, c.Mark(3, false))
	must(t, c.Mark(1, false))
	wantDirty(t, c, 7, 9)
	c.Get(7)
	wantDirty(t, c, 7, 9)
	wantPage(t, c, 7, filled(7))
	must(t, c.Mark(7, false))
	must(t, c.Mark(9, false))
	wantDirty(t, c)
	wantOrder(t, c, 3, 9, 1, 5, 7)
}

func TestOrderAndDirtyOfMany(t *testing.T) {
	c := cache.New(10)
	var want []int
	for page := 3000; page > 0; page-- {
		must(t, c.Put(page, filled(byte(page))))
		marked(t, c, page)
		want = append(want, page)
	}
	wantOrder(t, c, want...)
	slices.Sort(want)
	wantDirty(t, c, want...)
}

func TestDrop(t *testing.T) {
	c := with(t, 5, 1, 2, 3, 4, 5)
	pinned(t, c, 3, 3)
	marked(t, c, 3, 4)
	wantErr(t, "Drop of a page with two pins", c.Drop(3), api.ErrState)
	must(t, c.Free(3))
	wantErr(t, "Drop of a page with a pin", c.Drop(3), api.ErrState)
	wantOrder(t, c, 1, 2, 3, 4, 5)
	wantDirty(t, c, 3, 4)
	wantPins(t, c, 0, 0, 1)
	must(t, c.Drop(4))
	wantOrder(t, c, 1, 2, 3, 5)
	wantDirty(t, c, 3)
	must(t, c.Drop(1))
	must(t, c.Drop(5))
	wantOrder(t, c, 2, 3)
	wantErr(t, "Drop of a page that is gone", c.Drop(1), api.ErrNone)
	must(t, c.Free(3))
	must(t, c.Drop(3))
	must(t, c.Drop(2))
	wantOrder(t, c)
	wantDirty(t, c)
	must(t, c.Put(4, filled(4)))
	must(t, c.Put(2, filled(2)))
	wantOrder(t, c, 4, 2)
}

func TestClear(t *testing.T) {
	c := with(t, 6, 6, 5, 4, 3, 2, 1)
	pinned(t, c, 5, 2, 2)
	marked(t, c, 2, 3)
	if n := c.Clear(); n != 4 {
		t.Errorf("%d pages are gone, want 4", n)
	}
	wantOrder(t, c, 5, 2)
	wantDirty(t, c, 2)
	wantPins(t, c, 0, 2, 0, 0, 1, 0)
	wantPage(t, c, 5, filled(5))
	wantPage(t, c, 2, filled(2))
	if n := c.Clear(); n != 0 {
		t.Errorf("%d pages are gone, want none", n)
	}
	wantOrder(t, c, 5, 2)
	must(t, c.Free(5))
	must(t, c.Free(2))
	if n := c.Clear(); n != 1 {
		t.Errorf("%d pages are gone, want 1", n)
	}
	must(t, c.Free(2))
	if n := c.Clear(); n != 1 {
		t.Errorf("%d pages are gone, want 1", n)
	}
	wantOrder(t, c)
	if n := c.Clear(); n != 0 {
		t.Errorf("%d pages are gone of none", n)
	}
	must(t, c.Put(1, filled(1)))
	wantOrder(t, c, 1)
}

func TestWrongPuts(t *testing.T) {
	c := with(t, 2, 1, 2)
	pinned(t, c, 1)
	marked(t, c, 2)
	must(t, c.Put(3, filled(3)))
	must(t, c.Free(1))
	for _, page := range []int{0, -1, -512, math.MinInt} {
		wantErr(t, "a page below 1", c.Put(page, filled(1)), api.ErrArg)
		wantErr(t, "a page below 1, and no bytes", c.Put(page, nil), api.ErrArg)
		if _, ok := c.Peek(page); ok {
			t.Errorf("page %d is here", page)
		}
	}
	for _, n := range []int{0, 1, 128, size - 1, size + 1, 2 * size} {
		for _, page := range []int{1, 3, 4, math.MaxInt} {
			wantErr(t, "too few bytes, or too many", c.Put(page, make([]byte, n)), api.ErrArg)
		}
	}
	wantErr(t, "nil", c.Put(1, nil), api.ErrArg)
	wantErr(t, "spare room", c.Put(1, make([]byte, 5, size)), api.ErrArg)
	wantOrder(t, c, 1, 2, 3)
	wantDirty(t, c, 2)
	for page := range 3 {
		wantPage(t, c, page+1, filled(byte(page+1)))
	}
}

func TestPagesThatAreNotHere(t *testing.T) {
	c := with(t, 2, 1, 2, 3)
	for _, page := range []int{math.MinInt, -1, 0, 1, 4, math.MaxInt} {
		wantErr(t, "Pin", c.Pin(page), api.ErrNone)
		wantErr(t, "Free", c.Free(page), api.ErrNone)
		wantErr(t, "Mark", c.Mark(page, true), api.ErrNone)
		wantErr(t, "Mark, not dirty", c.Mark(page, false), api.ErrNone)
		wantErr(t, "Drop", c.Drop(page), api.ErrNone)
		if c.Pins(page) != 0 {
			t.Errorf("page %d has pins", page)
		}
	}
	wantOrder(t, c, 2, 3)
	wantDirty(t, c)
	wantPins(t, c, 0, 0, 0, 0)
}

func TestErrorsInTheirOrder(t *testing.T) {
	c := with(t, 2, 1)
	wantErr(t, "page and bytes", c.Put(0, []byte{1}), api.ErrArg)
	wantErr(t, "Free: neither here nor pinned", c.Free(2), api.ErrNone)
	pinned(t, c, 1)
	wantErr(t, "Drop: pinned, another page", c.Drop(2), api.ErrNone)
	for _, none := range []*cache.Cache{nil, new(cache.Cache)} {
		wantErr(t, "no cache, page and bytes", none.Put(0, nil), api.ErrMade)
		wantErr(t, "no cache, no page", none.Free(0), api.ErrMade)
		wantErr(t, "no cache, no page", none.Drop(-1), api.ErrMade)
	}
}

func TestACacheThatNoCallMade(t *testing.T) {
	for _, c := range []*cache.Cache{nil, new(cache.Cache), cache.New(0), cache.New(4097)} {
		for range 2 {
			for _, page := range []int{math.MinInt, 0, 1, math.MaxInt} {
				wantErr(t, "Put", c.Put(page, filled(1)), api.ErrMade)
				wantErr(t, "Pin", c.Pin(page), api.ErrMade)
				wantErr(t, "Free", c.Free(page), api.ErrMade)
				wantErr(t, "Mark", c.Mark(page, true), api.ErrMade)
				wantErr(t, "Drop", c.Drop(page), api.ErrMade)
				if b, ok := c.Get(page); ok || len(b) != 0 {
					t.Error("Get tells something")
				}
				if b, ok := c.Peek(page); ok || len(b) != 0 {
					t.Error("Peek tells something")
				}
				if c.Pins(page) != 0 {
					t.Error("a page has pins")
				}
			}
			wantHits(t, c, 0, 0)
			wantOrder(t, c)
			wantDirty(t, c)
			if c.Clear() != 0 || c.Copy() != nil {
				t.Error("a cache that no call made has something")
			}
		}
	}
}

func TestMemory(t *testing.T) {
	c := cache.New(4)
	given := append(filled(1), 3, 4)
	must(t, c.Put(1, given[:size]))
	must(t, c.Put(2, given[:size]))
	if !bytes.Equal(given, append(filled(1), 3, 4)) {
		t.Error("Put changed its argument")
	}
	clear(given)
	wantPage(t, c, 1, filled(1))
	must(t, c.Put(1, filled(5)))
	wantPage(t, c, 2, filled(1))
	got, _ := c.Get(1)
	clear(got[:cap(got)])
	wantPage(t, c, 1, filled(5))
	got, _ = c.Peek(1)
	other, _ := c.Get(1)
	clear(got[:cap(got)])
	wantPage(t, c, 1, filled(5))
	if !bytes.Equal(other, filled(5)) {
		t.Error("two answers share memory")
	}
	must(t, c.Put(1, filled(6)))
	if !bytes.Equal(other, filled(5)) {
		t.Error("an answer changed behind its call")
	}
	marked(t, c, 1, 2)
	order, dirty := c.Order(), c.Dirty()
	clear(order[:cap(order)])
	clear(dirty[:cap(dirty)])
	wantOrder(t, c, 2, 1)
	wantDirty(t, c, 1, 2)
}

func TestCopiesGoTheirOwnWay(t *testing.T) {
	c := with(t, 3, 1, 2, 3)
	pinned(t, c, 2, 2)
	marked(t, c, 3)
	c.Get(1)
	c.Get(9)
	d := c.Copy()
	if d == c {
		t.Fatal("a copy is the same one")
	}
	wantOrder(t, d, 2, 3, 1)
	wantDirty(t, d, 3)
	wantPins(t, d, 0, 2, 0)
	wantHits(t, d, 1, 1)
	for page := 1; page <= 3; page++ {
		wantPage(t, d, page, filled(byte(page)))
	}
	must(t, c.Put(1, filled(11)))
	must(t, c.Put(4, filled(4)))
	must(t, c.Free(2))
	must(t, c.Mark(3, false))
	must(t, c.Drop(3))
	c.Get(4)
	wantOrder(t, d, 2, 3, 1)
	wantDirty(t, d, 3)
	wantPins(t, d, 0, 2, 0)
	wantHits(t, d, 1, 1)
	wantPage(t, d, 1, filled(1))
	must(t, d.Put(5, filled(5)))
	must(t, d.Put(2, filled(22)))
	pinned(t, d, 2)
	d.Get(7)
	wantOrder(t, d, 3, 5, 2)
	wantHits(t, d, 1, 2)
	wantOrder(t, c, 2, 4)
	wantPins(t, c, 0, 1, 0)
	wantHits(t, c, 2, 1)
	wantPage(t, c, 2, filled(2))
	if c.Clear() != 1 || d.Len() != 3 {
		t.Error("a Clear is the copy's, too")
	}
}

func TestCopiesOfAllSizes(t *testing.T) {
	empty := cache.New(1).Copy()
	wantOrder(t, empty)
	must(t, empty.Put(1, filled(1)))
	must(t, empty.Put(2, filled(2)))
	wantOrder(t, empty, 2)

	c := with(t, 1, 1)
	marked(t, c, 1)
	must(t, c.Put(2, filled(2)))
	marked(t, c, 2)
	must(t, c.Put(3, filled(3)))
	d := c.Copy()
	wantOrder(t, d, 1, 2, 3)
	wantDirty(t, d, 1, 2)
	must(t, d.Mark(1, false))
	must(t, d.Put(4, filled(4)))
	wantOrder(t, d, 2, 4)
	wantOrder(t, c, 1, 2, 3)
}
