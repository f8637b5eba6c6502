package walk_test

import (
	"maps"
	"math"
	"slices"
	"testing"

	"hachure/api"
	"hachure/pager"
	"hachure/tree"
	"hachure/walk"
)

// place is where a cursor has to stand.
type place struct {
	key  int
	here bool
}

// bench is a tree and some cursors, and what they are held to: a map, and places.
type bench struct {
	t       *testing.T
	s       *dice
	p       *pager.Pager
	x       *tree.Tree
	now     map[int][]byte
	cursors []*walk.Cursor
	places  []place
	// keys are how many there may be, wide how far they are from one another.
	keys, wide int
}

func newBench(t *testing.T, seed int) *bench {
	t.Helper()
	b := &bench{t: t, s: thrown(seed), now: map[int][]byte{}}
	b.p, _, b.x = made(t)
	b.keys = []int{5, 50, 500}[b.s.under(3)]
	b.wide = []int{1, 3, 1 << 40, math.MaxInt / b.keys}[b.s.under(4)]
	b.places = make([]place, 1+b.s.under(4))
	for range b.places {
		b.cursors = append(b.cursors, over(t, b.x))
	}
	return b
}

// key is any, mostly one that may be there.
func (b *bench) key() int {
	switch b.s.under(12) {
	case 0:
		return ends()[b.s.under(len(ends()))]
	case 1:
		return (b.s.under(2*b.keys)-b.keys)*b.wide + b.s.under(b.wide)
	case 2:
		return b.places[b.s.under(len(b.places))].key
	}
	return (b.s.under(2*b.keys+1) - b.keys) * b.wide
}

// change puts or deletes keys, past the cursors.
func (b *bench) change() {
	b.t.Helper()
	for range 1 + b.s.under(4) {
		k := b.key()
		if b.s.under(3) == 0 {
			_, e := b.x.Delete(k)
			must(b.t, e)
			delete(b.now, k)
			continue
		}
		v := value(b.s.under(1<<30), b.s.under(150))
		must(b.t, b.x.Put(k, v))
		b.now[k] = v
	}
}

// fill puts several at once.
func (b *bench) fill() {
	b.t.Helper()
	var l []api.Pair
	for range b.s.under(20) {
		p := api.Pair{Key: b.key(), Value: value(b.s.under(1<<30), b.s.under(40))}
		l = append(l, p)
		b.now[p.Key] = p.Value
	}
	must(b.t, walk.Fill(b.x, l))
}

// to is the least of the keys that are let through, or the greatest.
func (b *bench) to(greatest bool, within func(k int) bool) place {
	var out place
	for k := range b.now {
		if within(k) && (!out.here || (k > out.key) == greatest) {
			out = place{k, true}
		}
	}
	return out
}

// step moves one of the cursors, and tells where it has to stand.
func (b *bench) step() {
	b.t.Helper()
	i := b.s.under(len(b.cursors))
	c, from := b.cursors[i], b.places[i]
	name, to, k := "", place{}, b.key()
	switch n := b.s.under(10); {
	case n == 0:
		name, to = "First", b.to(false, func(int) bool { return true })
	case n == 1:
		name, to = "Last", b.to(true, func(int) bool { return true })
	case n < 4:
		name, to = "Seek", b.to(false, func(n int) bool { return n >= k })
	case n < 7:
		name, to = "Next", b.to(false, func(n int) bool { return from.here && n > from.key })
	default:
		name, to = "Prev", b.to(true, func(n int) bool { return from.here && n < from.key })
	}
	if ok, e := moves(k)[name](c); ok != to.here || e != api.OK {
		b.t.Fatalf("%s from %v: %v, %s, want %v", name, from, ok, e, to)
	}
	b.places[i] = to
}

// ask holds what a cursor tells of its key against the map; it may take the key away.
func (b *bench) ask() {
	b.t.Helper()
	i := b.s.under(len(b.cursors))
	c, is := b.cursors[i], b.places[i]
	v, there := b.now[is.key]
	switch {
	case !is.here:
		wantNowhere(b.t, c)
	case !there:
		wantGone(b.t, c, is.key)
	default:
		wantValue(b.t, c, v)
		if b.s.under(3) == 0 {
			must(b.t, c.Delete())
			delete(b.now, is.key)
			wantGone(b.t, c, is.key)
		}
	}
}

// held asks all cursors for their keys, and the tree for its pairs.
func (b *bench) held() {
	b.t.Helper()
	for i, c := range b.cursors {
		if k, ok := c.Key(); (place{k, ok}) != b.places[i] {
			b.t.Fatalf("Key: %d, %v, want %v", k, ok, b.places[i])
		}
	}
	all := rising(b.now)
	n := b.s.under(len(all) + 2)
	wantPairs(b.t, b.x, n, all[:min(n, len(all))])
	from, to := b.key(), b.key()
	wantRange(b.t, b.x, from, to, slices.DeleteFunc(all, func(p api.Pair) bool { return p.Key < from || p.Key >= to }))
}

// undone does something behind a mark, and undoes it; the cursors stand where they stood.
func (b *bench) undone() {
	b.t.Helper()
	now := maps.Clone(b.now)
	m, e := b.p.Mark()
	must(b.t, e)
	for range b.s.under(10) {
		b.change()
		b.ask()
	}
	must(b.t, b.p.Undo(m))
	b.now = now
}

func TestAgainstAMap(t *testing.T) {
	t.Parallel()
	for seed := range 30 {
		b := newBench(t, seed)
		for range 400 {
			switch n := b.s.under(20); {
			case n < 4:
				b.change()
			case n == 4:
				b.fill()
			case n == 5 && b.s.under(3) == 0:
				b.undone()
			case n < 9:
				b.ask()
			case n < 11:
				b.held()
			default:
				b.step()
			}
		}
		wantTree(t, b.x, b.now)
		wantRow(t, b.x, slices.Sorted(maps.Keys(b.now)))
	}
}

// FuzzMoves: whatever keys there are, and whichever number is sought, a cursor stands where a sorted list says.
func FuzzMoves(f *testing.F) {
	f.Add(int64(0), int64(1), int64(-1), int64(5), int64(2))
	f.Add(int64(math.MinInt64), int64(math.MaxInt64), int64(0), int64(1), int64(math.MinInt64))
	f.Add(int64(math.MaxInt64), int64(math.MaxInt64), int64(math.MaxInt64-1), int64(9), int64(math.MaxInt64))
	f.Fuzz(func(t *testing.T, a, b, c, d, sought int64) {
		l := []int{int(a), int(b), int(c), int(d)}
		_, _, x := filled(t, l...)
		keys := slices.Compact(slices.Sorted(slices.Values(l)))
		wantRow(t, x, keys)
		i, _ := slices.BinarySearch(keys, int(sought))
		m := over(t, x)
		wantMove(t, "Seek", seek(int(sought)), m, keys, i)
		if i < len(keys) {
			wantMove(t, "Prev", (*walk.Cursor).Prev, m, keys, i-1)
		}
		wantRange(t, x, math.MinInt, int(sought), owned(keys[:i]...))
		wantRange(t, x, int(sought), math.MaxInt, owned(slices.DeleteFunc(slices.Clone(keys[i:]), func(k int) bool { return k == math.MaxInt })...))
	})
}
