package pager_test

import (
	"bytes"
	"maps"
	"slices"
	"testing"

	"hachure/api"
	"hachure/disk"
	"hachure/pager"
)

// version is the pages of the model, and which of them a transaction changed.
type version struct {
	pages   [][]byte
	changed map[int]bool
}

// copied is v in new memory, but for the pages' bytes, which nobody changes.
func (v version) copied() version {
	return version{slices.Clone(v.pages), maps.Clone(v.changed)}
}

// model is what a pager means, without cache and journal.
type model struct {
	room int
	sure [][]byte
	now  version
	// marks are all since Begin, each at its number; nil are those that were undone past.
	marks   []*version
	busy    bool
	commits int
}

func (m *model) end() {
	m.busy = false
	m.marks = nil
	m.now = version{slices.Clone(m.sure), map[int]bool{}}
}

func (m *model) begin() api.Errno {
	if m.busy {
		return api.ErrState
	}
	m.busy = true
	return api.OK
}

func (m *model) put(n int, b []byte) api.Errno {
	switch {
	case !m.busy:
		return api.ErrState
	case n < 1 || n > len(m.now.pages):
		return api.ErrRange
	case len(b) != size:
		return api.ErrArg
	}
	m.now.pages[n-1] = bytes.Clone(b)
	m.now.changed[n] = true
	return api.OK
}

func (m *model) grow() (int, api.Errno) {
	if !m.busy {
		return 0, api.ErrState
	}
	m.now.pages = append(m.now.pages, make([]byte, size))
	m.now.changed[len(m.now.pages)] = true
	return len(m.now.pages), api.OK
}

func (m *model) shrink(n int) api.Errno {
	if !m.busy {
		return api.ErrState
	}
	if n < 0 || n > len(m.now.pages) {
		return api.ErrRange
	}
	m.now.pages = m.now.pages[:n:n]
	maps.DeleteFunc(m.now.changed, func(page int, _ bool) bool { return page > n })
	return api.OK
}

func (m *model) mark() (int, api.Errno) {
	if !m.busy {
		return 0, api.ErrState
	}
	v := m.now.copied()
	m.marks = append(m.marks, &v)
	return len(m.marks), api.OK
}

func (m *model) undo(n int) api.Errno {
	if !m.busy {
		return api.ErrState
	}
	if n < 1 || n > len(m.marks) || m.marks[n-1] == nil {
		return api.ErrNone
	}
	m.now = m.marks[n-1].copied()
	clear(m.marks[n:])
	return api.OK
}

// needs is how many sectors both files have within the commit, at most.
func (m *model) needs() int {
	records := max(len(m.sure)-len(m.now.pages), 0)
	for n := range m.now.changed {
		if n <= len(m.sure) {
			records++
		}
	}
	return max(len(m.sure), len(m.now.pages))*perPage + 1 + 5*records
}

func (m *model) commit() api.Errno {
	if !m.busy {
		return api.ErrState
	}
	if len(m.now.changed) > 0 || len(m.now.pages) != len(m.sure) {
		if m.needs() > m.room {
			return api.ErrFull
		}
		m.sure = m.now.pages
		m.commits++
	}
	m.end()
	return api.OK
}

func (m *model) rollback() api.Errno {
	if !m.busy {
		return api.ErrState
	}
	m.end()
	return api.OK
}

// dice tells numbers that are the same in each run.
type dice struct{ seed uint64 }

func (s *dice) under(n int) int {
	s.seed ^= s.seed << 13
	s.seed ^= s.seed >> 7
	s.seed ^= s.seed << 17
	return int(s.seed>>33) % n
}

func (s *dice) crash() disk.Crash {
	c := disk.Crash{Torn: s.under(sector+20) - 10}
	for range s.under(12) {
		c.Keep = append(c.Keep, s.under(3) > 0)
	}
	return c
}

// bench is a pager, the disk below it, and the model that it is held to.
type bench struct {
	t     *testing.T
	s     *dice
	d     *disk.Disk
	p     *pager.Pager
	m     *model
	cache int
	falls int
}

func newBench(t *testing.T, seed uint64) *bench {
	t.Helper()
	s := &dice{seed: seed*2654435761 + 1}
	for range 10 {
		s.under(2)
	}
	room := 20 + s.under(300)
	x := &bench{t: t, s: s, d: disk.New(room), m: &model{room: room}, cache: 8 + s.under(20)}
	x.m.end()
	p, e := pager.Open(x.d, x.cache)
	must(t, e)
	x.p = p
	return x
}

func (x *bench) alike(what string, got, want any) {
	x.t.Helper()
	if got != want {
		x.t.Fatalf("%s: %v, want %v", what, got, want)
	}
}

// held holds all that the pager tells against the model.
func (x *bench) held() {
	x.t.Helper()
	x.alike("Pages", x.p.Pages(), len(x.m.now.pages))
	x.alike("Busy", x.p.Busy(), x.m.busy)
	x.alike("Commits", x.p.Commits(), x.m.commits)
	if want := slices.Sorted(maps.Keys(x.m.now.changed)); !slices.Equal(x.p.Changed(), want) {
		x.t.Fatalf("changed are %v, want %v", x.p.Changed(), want)
	}
	if x.p.Cached() > x.cache {
		x.t.Fatalf("%d pages in a cache for %d", x.p.Cached(), x.cache)
	}
	x.alike("a journal", x.d.Sectors(disk.Journal), 0)
	for range 3 {
		x.get(x.s.under(len(x.m.now.pages)+3) - 1)
	}
}

func (x *bench) get(n int) {
	x.t.Helper()
	b, e := x.p.Get(n)
	if n < 1 || n > len(x.m.now.pages) {
		x.alike("Get of no page", e, api.ErrRange)
		return
	}
	if e != api.OK || !bytes.Equal(b, x.m.now.pages[n-1]) {
		x.t.Fatalf("Get(%d): %s, or other bytes", n, e)
	}
}

// all holds every page against the model.
func (x *bench) all() {
	x.t.Helper()
	for n := range len(x.m.now.pages) + 2 {
		x.get(n)
	}
}

// reopen makes a pager anew, whatever the power does meanwhile; the pages are those of the model, or, if there was a commit, those of its transaction.
func (x *bench) reopen(within bool) {
	x.t.Helper()
	for {
		must(x.t, x.d.Start())
		must(x.t, x.d.Arm(x.s.under(12), x.s.crash()))
		p, e := pager.Open(x.d, x.cache)
		if e == api.OK {
			x.p = p
			break
		}
		x.alike("Open", e, api.ErrPower)
	}
	must(x.t, x.d.Arm(0, disk.Crash{}))
	got := told(x.t, x.p)
	if !bytes.Equal(got, slices.Concat(x.m.sure...)) {
		if !within || !bytes.Equal(got, slices.Concat(x.m.now.pages...)) {
			x.t.Fatal("pages that were never there")
		}
		x.m.sure = x.m.now.pages
	}
	x.m.commits = 0
	x.m.end()
}

func (x *bench) commit() {
	x.t.Helper()
	if x.s.under(3) == 0 {
		must(x.t, x.d.Arm(1+x.s.under(30), x.s.crash()))
	}
	e := x.p.Commit()
	if e == api.ErrPower {
		x.alike("a dead pager's pages", x.p.Pages(), 0)
		x.alike("a dead pager's Begin", x.p.Begin(), api.ErrPower)
		x.falls++
		// A commit that the disk has no room for may not have been done.
		x.reopen(x.m.needs() <= x.m.room)
		return
	}
	must(x.t, x.d.Arm(0, disk.Crash{}))
	x.alike("Commit", e, x.m.commit())
}

func (x *bench) step() {
	x.t.Helper()
	s, p, m := x.s, x.p, x.m
	count := len(m.now.pages)
	switch s.under(16) {
	case 0, 1:
		x.alike("Begin", p.Begin(), m.begin())
	case 2, 3, 4, 5:
		n, b := s.under(count+2), page(s.under(1<<20))
		if s.under(10) == 0 {
			b = b[:s.under(size)]
		}
		x.alike("Put", p.Put(n, b), m.put(n, b))
	case 6, 7, 8:
		n, e := p.Grow()
		n2, e2 := m.grow()
		x.alike("Grow", n, n2)
		x.alike("Grow", e, e2)
	case 9:
		n := count + 1 - s.under(4)
		if s.under(6) == 0 {
			n = s.under(count + 1)
		}
		x.alike("Shrink", p.Shrink(n), m.shrink(n))
	case 10, 11:
		n, e := p.Mark()
		n2, e2 := m.mark()
		x.alike("Mark", n, n2)
		x.alike("Mark", e, e2)
	case 12:
		n := s.under(len(m.marks) + 2)
		x.alike("Undo", p.Undo(n), m.undo(n))
	case 13:
		x.commit()
	case 14:
		if s.under(3) == 0 {
			x.alike("Rollback", p.Rollback(), m.rollback())
		}
	case 15:
		if s.under(20) == 0 {
			x.d.Crash(s.crash())
			x.reopen(false)
		}
	}
	x.held()
}

func TestAgainstTheModel(t *testing.T) {
	falls := 0
	for seed := range 300 {
		x := newBench(t, uint64(seed))
		for i := range 250 {
			x.step()
			if i%50 == 0 {
				x.all()
			}
		}
		x.all()
		falls += x.falls
	}
	if falls < 100 {
		t.Errorf("the power went but %d times", falls)
	}
}

func TestTheSameCallsTellTheSame(t *testing.T) {
	for seed := range 20 {
		a, b := newBench(t, uint64(seed)), newBench(t, uint64(seed))
		for range 200 {
			a.step()
			b.step()
			if a.p.Cached() != b.p.Cached() || lookAt(t, a.d) != lookAt(t, b.d) {
				t.Fatal("two pagers that were done the same to differ")
			}
		}
	}
}
