package free_test

import (
	"bytes"
	"maps"
	"slices"
	"testing"

	"hachure/api"
	"hachure/disk"
	"hachure/free"
	"hachure/pager"
)

// dice tells numbers that are the same in each run.
type dice struct{ seed uint64 }

func (s *dice) under(n int) int {
	s.seed ^= s.seed << 13
	s.seed ^= s.seed >> 7
	s.seed ^= s.seed << 17
	return int(s.seed>>33) % n
}

// group is a trunk of the model, with its leaves.
type group struct {
	trunk  int
	leaves []int
}

// model is what a heap means, without bytes.
type model struct {
	pages  int
	groups []group // the first one first
	words  [words]int
	// mine has the bytes of the pages that are taken.
	mine map[int][]byte
}

func (m *model) copied() *model {
	c := *m
	c.mine = maps.Clone(m.mine)
	c.groups = nil
	for _, g := range m.groups {
		c.groups = append(c.groups, group{g.trunk, slices.Clone(g.leaves)})
	}
	return &c
}

func (m *model) take() int {
	if len(m.groups) == 0 {
		m.pages++
		return m.pages
	}
	g := &m.groups[0]
	if n := len(g.leaves); n > 0 {
		page := g.leaves[n-1]
		g.leaves = g.leaves[:n-1]
		return page
	}
	page := g.trunk
	m.groups = m.groups[1:]
	return page
}

func (m *model) give(page int) api.Errno {
	if page < 2 || page > m.pages {
		return api.ErrArg
	}
	if len(m.groups) > 0 && len(m.groups[0].leaves) < leaves {
		m.groups[0].leaves = append(m.groups[0].leaves, page)
	} else {
		m.groups = slices.Insert(m.groups, 0, group{trunk: page})
	}
	delete(m.mine, page)
	return api.OK
}

func (m *model) all() []int {
	var out []int
	for _, g := range m.groups {
		out = append(append(out, g.trunk), g.leaves...)
	}
	return out
}

func (m *model) trim(pages int) api.Errno {
	if pages < 1 || pages > m.pages {
		return api.ErrRange
	}
	kept := slices.Sorted(slices.Values(m.all()))
	m.groups = nil
	for _, page := range kept {
		if page <= pages {
			m.give(page)
		}
	}
	m.pages = pages
	maps.DeleteFunc(m.mine, func(page int, _ []byte) bool { return page > pages })
	return api.OK
}

// bench is a heap, what lies below it, and the model that it is held to.
type bench struct {
	t     *testing.T
	s     *dice
	d     *disk.Disk
	p     *pager.Pager
	h     *free.Heap
	now   *model
	sure  *model
	marks []*model
	fills int
	deep  int
	falls int
}

func newBench(t *testing.T, seed int) *bench {
	t.Helper()
	s := &dice{seed: uint64(seed)*2654435761 + 1}
	for range 10 {
		s.under(2)
	}
	x := &bench{t: t, s: s, d: disk.New(roomy)}
	x.p = opened(t, x.d)
	must(t, x.p.Begin())
	h, e := free.Make(x.p)
	must(t, e)
	x.h = h
	x.now = &model{pages: 1, mine: map[int][]byte{}}
	must(t, x.p.Commit())
	x.begin()
	return x
}

// begin goes on with a transaction from what is sure.
func (x *bench) begin() {
	x.t.Helper()
	must(x.t, x.p.Begin())
	x.sure, x.marks = x.now.copied(), nil
}

func (x *bench) take() {
	x.t.Helper()
	n, e := x.h.Take()
	must(x.t, e)
	if want := x.now.take(); n != want {
		x.t.Fatalf("Take: %d, want %d", n, want)
	}
	if x.now.mine[n] != nil {
		x.t.Fatalf("page %d is taken twice", n)
	}
	b, e := x.p.Get(n)
	must(x.t, e)
	if !bytes.Equal(b, make([]byte, size)) {
		x.t.Fatalf("page %d is not of noughts", n)
	}
	x.fills++
	x.now.mine[n] = mark(x.fills)
	must(x.t, x.p.Put(n, mark(x.fills)))
}

func (x *bench) give(n int) {
	x.t.Helper()
	if got, want := x.h.Give(n), x.now.give(n); got != want {
		x.t.Fatalf("Give(%d): %s, want %s", n, got, want)
	}
}

// giveMine gives some of the pages that are taken, in no order.
func (x *bench) giveMine(count int) {
	x.t.Helper()
	for range count {
		mine := slices.Sorted(maps.Keys(x.now.mine))
		if len(mine) == 0 {
			return
		}
		x.give(mine[x.s.under(len(mine))])
	}
}

func (x *bench) trim() {
	x.t.Helper()
	to := x.now.pages + 1 - x.s.under(30)
	if x.s.under(10) == 0 {
		to = x.s.under(x.now.pages + 2)
	}
	if got, want := x.h.Trim(to), x.now.trim(to); got != want {
		x.t.Fatalf("Trim(%d): %s, want %s", to, got, want)
	}
}

func (x *bench) word() {
	x.t.Helper()
	i, n := x.s.under(words+2)-1, x.s.under(1<<30)<<20-1<<40
	want := api.ErrRange
	if i >= 0 && i < words {
		want = api.OK
		x.now.words[i] = n
	}
	if got := x.h.Set(i, n); got != want {
		x.t.Fatalf("Set(%d): %s, want %s", i, got, want)
	}
}

// commit makes the transaction sure; the power may go meanwhile.
func (x *bench) commit() {
	x.t.Helper()
	if x.s.under(3) == 0 {
		must(x.t, x.d.Arm(1+x.s.under(20), disk.Crash{Keep: []bool{x.s.under(2) > 0, x.s.under(2) > 0, true}, Torn: x.s.under(130)}))
	}
	e := x.p.Commit()
	if e == api.ErrPower {
		x.falls++
		must(x.t, x.d.Start())
	} else {
		must(x.t, e)
		must(x.t, x.d.Arm(0, disk.Crash{}))
	}
	if e == api.ErrPower || x.s.under(2) == 0 {
		x.p = opened(x.t, x.d)
		x.h = mustOpen(x.t, x.p)
	}
	if e == api.ErrPower && !x.alike(x.now) {
		x.now = x.sure.copied()
	}
	x.held()
	x.begin()
}

// alike is whether the heap tells what a model does.
func (x *bench) alike(m *model) bool {
	x.t.Helper()
	all, e := x.h.All()
	if e != api.OK || !slices.Equal(all, m.all()) || x.p.Pages() != m.pages {
		return false
	}
	if n, e := x.h.Count(); e != api.OK || n != len(all) {
		return false
	}
	for i, want := range m.words {
		if n, e := x.h.Word(i); e != api.OK || n != want {
			return false
		}
	}
	for n, want := range m.mine {
		if b, e := x.p.Get(n); e != api.OK || !bytes.Equal(b, want) {
			return false
		}
	}
	return true
}

func (x *bench) held() {
	x.t.Helper()
	if !x.alike(x.now) {
		all, e := x.h.All()
		x.t.Fatalf("%d pages, free %v, %s; want %d, %v; or words or pages differ", x.p.Pages(), all, e, x.now.pages, x.now.all())
	}
	x.deep = max(x.deep, len(x.now.groups))
}

func (x *bench) step() {
	x.t.Helper()
	switch x.s.under(16) {
	case 0, 1, 2:
		for range x.s.under(12) {
			x.take()
		}
	case 3:
		for range x.s.under(200) {
			x.take()
		}
	case 4, 5, 6:
		x.giveMine(x.s.under(12))
	case 7:
		x.giveMine(x.s.under(250))
	case 8:
		x.give([]int{0, 1, -1, x.now.pages + 1}[x.s.under(4)])
	case 9, 10:
		x.word()
	case 11:
		x.trim()
	case 12:
		_, e := x.p.Mark()
		must(x.t, e)
		x.marks = append(x.marks, x.now.copied())
	case 13:
		if len(x.marks) > 0 {
			must(x.t, x.p.Undo(1))
			x.now, x.marks = x.marks[0].copied(), nil
			must(x.t, x.p.Commit())
			x.begin()
		}
	case 14:
		x.commit()
	case 15:
		if x.s.under(4) == 0 {
			must(x.t, x.p.Rollback())
			x.now = x.sure.copied()
			x.held()
			x.begin()
		}
	}
	x.held()
}

func TestAgainstTheModel(t *testing.T) {
	deep, falls := 0, 0
	for seed := range 40 {
		x := newBench(t, seed)
		for range 150 {
			x.step()
		}
		deep = max(deep, x.deep)
		falls += x.falls
	}
	if deep < 4 || falls < 40 {
		t.Errorf("but %d trunks at most, the power went but %d times", deep, falls)
	}
}
