package cache_test

import (
	"bytes"
	"slices"
	"testing"

	"hachure/api"
	"hachure/cache"
)

// kept is a page of the model.
type kept struct {
	page, pins int
	dirty      bool
	bytes      []byte
}

// stays is whether the page does not go by itself.
func (k kept) stays() bool {
	return k.pins > 0 || k.dirty
}

// model is a cache as the chapter words it: a list of its pages, the one that was used longest ago first.
type model struct {
	room, found, missed int
	pages               []kept
}

func (m *model) at(page int) int {
	return slices.IndexFunc(m.pages, func(k kept) bool { return k.page == page })
}

func (m *model) use(i int) {
	k := m.pages[i]
	m.pages = append(slices.Delete(m.pages, i, i+1), k)
}

func (m *model) put(page int, b []byte) api.Errno {
	if page < 1 || len(b) != size {
		return api.ErrArg
	}
	i := m.at(page)
	if i < 0 {
		i = len(m.pages)
		m.pages = append(m.pages, kept{page: page})
	}
	m.pages[i].bytes = bytes.Clone(b)
	m.use(i)
	for i := 0; len(m.pages) > m.room && i < len(m.pages)-1; {
		if m.pages[i].stays() {
			i++
		} else {
			m.pages = slices.Delete(m.pages, i, i+1)
		}
	}
	return api.OK
}

func (m *model) get(page int) ([]byte, bool) {
	i := m.at(page)
	if i < 0 {
		m.missed++
		return nil, false
	}
	m.found++
	m.use(i)
	return m.pages[len(m.pages)-1].bytes, true
}

func (m *model) peek(page int) ([]byte, bool) {
	i := m.at(page)
	if i < 0 {
		return nil, false
	}
	return m.pages[i].bytes, true
}

func (m *model) pin(page int) api.Errno {
	i := m.at(page)
	if i < 0 {
		return api.ErrNone
	}
	m.pages[i].pins++
	return api.OK
}

func (m *model) free(page int) api.Errno {
	i := m.at(page)
	if i < 0 {
		return api.ErrNone
	}
	if m.pages[i].pins == 0 {
		return api.ErrState
	}
	m.pages[i].pins--
	return api.OK
}

func (m *model) mark(page int, dirty bool) api.Errno {
	i := m.at(page)
	if i < 0 {
		return api.ErrNone
	}
	m.pages[i].dirty = dirty
	return api.OK
}

func (m *model) drop(page int) api.Errno {
	i := m.at(page)
	if i < 0 {
		return api.ErrNone
	}
	if m.pages[i].pins > 0 {
		return api.ErrState
	}
	m.pages = slices.Delete(m.pages, i, i+1)
	return api.OK
}

func (m *model) clear() int {
	n := len(m.pages)
	m.pages = slices.DeleteFunc(m.pages, func(k kept) bool { return k.pins == 0 })
	return n - len(m.pages)
}

func (m *model) copied() *model {
	out := *m
	out.pages = slices.Clone(m.pages)
	return &out
}

// dice tells numbers without a rule, the same in each run.
type dice uint64

func (s *dice) under(n int) int {
	*s ^= *s << 13
	*s ^= *s >> 7
	*s ^= *s << 17
	return int(uint64(*s>>11) % uint64(n))
}

// alike holds a cache against its model in all that it tells.
func alike(t *testing.T, c *cache.Cache, m *model) {
	t.Helper()
	var order, dirty []int
	for _, k := range m.pages {
		order = append(order, k.page)
		if k.dirty {
			dirty = append(dirty, k.page)
		}
		if c.Pins(k.page) != k.pins {
			t.Errorf("page %d has %d pins, want %d", k.page, c.Pins(k.page), k.pins)
		}
		wantPage(t, c, k.page, k.bytes)
	}
	slices.Sort(dirty)
	wantOrder(t, c, order...)
	wantDirty(t, c, dirty...)
	wantHits(t, c, m.found, m.missed)
}

// wantAlike holds what a Get or a Peek answered against what its model did.
func wantAlike(t *testing.T, what string, got, want []byte, ok, wantOK bool) {
	t.Helper()
	if ok != wantOK || !bytes.Equal(got, want) {
		t.Errorf("%s: %v, %d bytes, want %v, %d, or other ones", what, ok, len(got), wantOK, len(want))
	}
}

// step does one thing to a cache and to its model; they answer the same.
func step(t *testing.T, s *dice, c *cache.Cache, m *model) {
	t.Helper()
	page := s.under(m.room*2+4) - 1
	switch s.under(20) {
	case 0, 1, 2, 3, 4, 5:
		b := filled(byte(s.under(256)))
		if s.under(30) == 0 {
			b = b[:s.under(size)]
		}
		wantErr(t, "Put", c.Put(page, b), m.put(page, b))
	case 6, 7, 8:
		got, ok := c.Get(page)
		want, wantOK := m.get(page)
		wantAlike(t, "Get", got, want, ok, wantOK)
	case 9:
		got, ok := c.Peek(page)
		want, wantOK := m.peek(page)
		wantAlike(t, "Peek", got, want, ok, wantOK)
	case 10, 11:
		wantErr(t, "Pin", c.Pin(page), m.pin(page))
	case 12, 13, 14:
		wantErr(t, "Free", c.Free(page), m.free(page))
	case 15, 16, 17:
		dirty := s.under(2) == 0
		wantErr(t, "Mark", c.Mark(page, dirty), m.mark(page, dirty))
	case 18:
		wantErr(t, "Drop", c.Drop(page), m.drop(page))
	default:
		if s.under(4) > 0 {
			return
		}
		if got, want := c.Clear(), m.clear(); got != want {
			t.Errorf("Clear: %d, want %d", got, want)
		}
	}
}

func TestAgainstTheModel(t *testing.T) {
	s := dice(88172645463325252)
	for round := range 400 {
		room := 1 + s.under(8)
		c, m := cache.New(room), &model{room: room}
		var past *cache.Cache
		var pastModel *model
		for range 100 {
			step(t, &s, c, m)
			alike(t, c, m)
			if s.under(30) == 0 {
				past, pastModel = c.Copy(), m.copied()
			}
		}
		if past != nil {
			alike(t, past, pastModel)
			for range 30 {
				step(t, &s, past, pastModel)
				alike(t, past, pastModel)
			}
			alike(t, c, m)
		}
		if t.Failed() {
			t.Fatalf("in round %d", round)
		}
	}
}

// staying is the pages that are pinned or dirty, as the cache tells them.
func staying(c *cache.Cache) []int {
	dirty := c.Dirty()
	return slices.DeleteFunc(c.Order(), func(page int) bool {
		return c.Pins(page) == 0 && !slices.Contains(dirty, page)
	})
}

// TestWhatFollows is P5.3: pinned and dirty pages do not go behind a Put, and behind it there are more than room only where all others are pinned or dirty.
func TestWhatFollows(t *testing.T) {
	s := dice(88172645463325252)
	over := 0
	for range 400 {
		room := 1 + s.under(8)
		c, m := cache.New(room), &model{room: room}
		for range 60 {
			step(t, &s, c, m)
			before := staying(c)
			page := 1 + s.under(room*2+4)
			must(t, c.Put(page, filled(1)))
			must(t, m.put(page, filled(1)))
			order := c.Order()
			for _, p := range before {
				if !slices.Contains(order, p) {
					t.Fatalf("page %d is gone, though it was pinned or dirty", p)
				}
			}
			others := slices.DeleteFunc(staying(c), func(p int) bool { return p == page })
			if len(order) > room {
				over++
				if len(others) != len(order)-1 {
					t.Fatalf("%v are here in a room for %d, where only %v must stay", order, room, others)
				}
			}
			if order[len(order)-1] != page {
				t.Fatalf("%v are here behind a Put of %d", order, page)
			}
		}
	}
	if over == 0 {
		t.Error("there never were more than room")
	}
}
