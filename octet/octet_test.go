package octet_test

import (
	"bytes"
	"encoding/binary"
	"math"
	"slices"
	"testing"

	"hachure/api"
	"hachure/octet"
)

const top = math.MaxUint64

// numbers are those at which bytes and lengths of Vars turn, and some without a rule.
func numbers() []uint64 {
	out := []uint64{0, 1, 2, 44, 127, 128, 300, top - 1, top}
	for bit := range 64 {
		n := uint64(1) << bit
		out = append(out, n-1, n, n+1)
	}
	seed := uint64(88172645463325252)
	for range 200 {
		seed ^= seed << 13
		seed ^= seed >> 7
		seed ^= seed << 17
		out = append(out, seed, seed>>(seed%64))
	}
	slices.Sort(out)
	return slices.Compact(out)
}

// spelt is n as a Var, made from its bits one by one.
func spelt(n uint64) []byte {
	bit := func(at int) byte { return byte(n >> at & 1) }
	group := func(low, count int) byte {
		c := byte(0)
		for at := low + count - 1; at >= low; at-- {
			c = c*2 + bit(at)
		}
		return c
	}
	if n >= 1<<56 {
		var out []byte
		for low := 57; low >= 8; low -= 7 {
			out = append(out, 128+group(low, 7))
		}
		return append(out, group(0, 8))
	}
	out := []byte{group(0, 7)}
	for low := 7; low < 56 && n>>low > 0; low += 7 {
		out = append([]byte{128 + group(low, 7)}, out...)
	}
	return out
}

// padded is n as a Var of size bytes, be it the shortest or not.
func padded(n uint64, size int) []byte {
	out := make([]byte, size)
	if size == 9 {
		out[8] = byte(n)
		n >>= 8
	} else {
		out[size-1] = byte(n & 127)
		n >>= 7
	}
	for i := size - 2; i >= 0; i-- {
		out[i] = byte(n&127) | 128
		n >>= 7
	}
	return out
}

func wantErr(t *testing.T, what string, got, want api.Errno) {
	t.Helper()
	if got != want {
		t.Errorf("%s: %s, want %s", what, got, want)
	}
}

func TestPutOrders(t *testing.T) {
	const n = 0x0102030405060708
	great := []byte{1, 2, 3, 4, 5, 6, 7, 8}
	small := []byte{8, 7, 6, 5, 4, 3, 2, 1}
	for size := 0; size <= 8; size++ {
		want := append([]byte{77, 78}, great[8-size:]...)
		if got := octet.Put([]byte{77, 78}, n, size, false); !bytes.Equal(got, want) {
			t.Errorf("Put of %d bytes: %v, want %v", size, got, want)
		}
		want = append([]byte{77, 78}, small[:size]...)
		if got := octet.Put([]byte{77, 78}, n, size, true); !bytes.Equal(got, want) {
			t.Errorf("Put of %d bytes, little: %v, want %v", size, got, want)
		}
	}
}

func TestPutOfSizesBeyond(t *testing.T) {
	for _, little := range []bool{false, true} {
		for _, size := range []int{math.MinInt, -9, -8, -1} {
			if got := octet.Put([]byte{5}, 1234, size, little); !bytes.Equal(got, []byte{5}) {
				t.Errorf("Put of %d bytes: %v, want 5 alone", size, got)
			}
		}
		for _, size := range []int{9, 10, 16, 1 << 40, math.MaxInt} {
			want := octet.Put([]byte{5}, 1<<63+9, 8, little)
			if got := octet.Put([]byte{5}, 1<<63+9, size, little); len(got) != 9 || !bytes.Equal(got, want) {
				t.Errorf("Put of %d bytes: %v, want %v", size, got, want)
			}
		}
	}
	if got := octet.Put(nil, 0, 0, false); len(got) != 0 {
		t.Errorf("Put of nothing behind nothing: %v", got)
	}
}

func TestPutAndGetAgainstTheLibrary(t *testing.T) {
	for _, n := range numbers() {
		great := binary.BigEndian.AppendUint64(nil, n)
		small := binary.LittleEndian.AppendUint64(nil, n)
		for size := 1; size <= 8; size++ {
			low := n << (64 - 8*size) >> (64 - 8*size)
			for _, c := range []struct {
				little bool
				want   []byte
			}{{false, great[8-size:]}, {true, small[:size]}} {
				got := octet.Put(nil, n, size, c.little)
				if !bytes.Equal(got, c.want) {
					t.Fatalf("Put of %d, %d, %v: %v, want %v", n, size, c.little, got, c.want)
				}
				back, ok := octet.Get(append(got, 99), size, c.little)
				if back != low || !ok {
					t.Fatalf("Get of %v, %d, %v: %d %v, want %d", got, size, c.little, back, ok, low)
				}
			}
		}
	}
}

func TestGetOfNone(t *testing.T) {
	b := []byte{1, 2, 3, 4, 5, 6, 7, 8, 9, 10}
	for _, little := range []bool{false, true} {
		for _, size := range []int{math.MinInt, -1, 0, 9, 10, 11, math.MaxInt} {
			if n, ok := octet.Get(b, size, little); n != 0 || ok {
				t.Errorf("Get of %d bytes: %d %v", size, n, ok)
			}
		}
		for size := 1; size <= 8; size++ {
			if n, ok := octet.Get(b[:size-1], size, little); n != 0 || ok {
				t.Errorf("Get of %d bytes of %d: %d %v", size, size-1, n, ok)
			}
			if _, ok := octet.Get(b[:size], size, little); !ok {
				t.Errorf("Get of %d bytes of as many: false", size)
			}
		}
		if n, ok := octet.Get(nil, 1, little); n != 0 || ok {
			t.Errorf("Get of nothing: %d %v", n, ok)
		}
	}
}

func TestVarExamples(t *testing.T) {
	for _, c := range []struct {
		n    uint64
		want []byte
	}{
		{0, []byte{0}},
		{127, []byte{127}},
		{128, []byte{129, 0}},
		{300, []byte{130, 44}},
		{1<<14 - 1, []byte{255, 127}},
		{1 << 14, []byte{129, 128, 0}},
		{1<<56 - 1, []byte{255, 255, 255, 255, 255, 255, 255, 127}},
		{1 << 56, []byte{128, 192, 128, 128, 128, 128, 128, 128, 0}},
		{1<<56 + 128, []byte{128, 192, 128, 128, 128, 128, 128, 128, 128}},
		{top, []byte{255, 255, 255, 255, 255, 255, 255, 255, 255}},
	} {
		if got := octet.Var(nil, c.n); !bytes.Equal(got, c.want) {
			t.Errorf("Var of %d: %v, want %v", c.n, got, c.want)
		}
		if n, size := octet.Take(c.want); n != c.n || size != len(c.want) {
			t.Errorf("Take of %v: %d %d, want %d", c.want, n, size, c.n)
		}
		if got := octet.Size(c.n); got != len(c.want) {
			t.Errorf("Size of %d: %d, want %d", c.n, got, len(c.want))
		}
	}
}

func TestVarAndTakeAndSize(t *testing.T) {
	for _, n := range numbers() {
		want := spelt(n)
		got := octet.Var([]byte{7, 255}, n)
		if !bytes.Equal(got, append([]byte{7, 255}, want...)) {
			t.Fatalf("Var of %d: %v, want %v", n, got, want)
		}
		if size := octet.Size(n); size != len(want) {
			t.Fatalf("Size of %d: %d, want %d", n, size, len(want))
		}
		for _, behind := range [][]byte{nil, {0}, {255}, {128, 3}} {
			back, size := octet.Take(append(slices.Clone(want), behind...))
			if back != n || size != len(want) {
				t.Fatalf("Take of %v with %v behind: %d %d, want %d", want, behind, back, size, n)
			}
		}
	}
}

func TestTakeOfNone(t *testing.T) {
	for _, n := range numbers() {
		b := spelt(n)
		for end := range b {
			if got, size := octet.Take(b[:end]); got != 0 || size != 0 {
				t.Fatalf("Take of %v: %d %d", b[:end], got, size)
			}
		}
		for size := len(b) + 1; size <= 9; size++ {
			long := append(padded(n, size), 1, 2)
			if got, has := octet.Take(long); got != 0 || has != 0 {
				t.Fatalf("Take of %v, that could be shorter: %d %d", long, got, has)
			}
			s := octet.Read(long)
			if got := s.Var(top); got != 0 || s.Err() != api.ErrBad {
				t.Fatalf("Source.Var of %v, that could be shorter: %d %s", long, got, s.Err())
			}
		}
	}
}

// A Var is ordered by its number: by its length first, then byte by byte.
func TestVarsAreInOrder(t *testing.T) {
	all := numbers()
	for i, n := range all[1:] {
		a, b := octet.Var(nil, all[i]), octet.Var(nil, n)
		if len(a) > len(b) {
			t.Errorf("%d has %d bytes, %d has %d", all[i], len(a), n, len(b))
		}
		if len(a) == len(b) && bytes.Compare(a, b) >= 0 {
			t.Errorf("%d: %v, but %d: %v", all[i], a, n, b)
		}
	}
}

func TestAnswersAreNewMemory(t *testing.T) {
	room := []byte{1, 2, 3, 77, 77, 77, 77, 77, 77, 77, 77, 77, 77, 77}
	b := room[:3]
	puts := [][]byte{
		octet.Put(b, top, 8, false), octet.Put(b, top, 8, true), octet.Put(b, top, 0, false),
		octet.Var(b, 300), octet.Var(b, top), octet.Var(b, 0),
	}
	for _, p := range puts {
		p = p[:cap(p)]
		for i := range p {
			p[i] = 200
		}
	}
	if !bytes.Equal(room, []byte{1, 2, 3, 77, 77, 77, 77, 77, 77, 77, 77, 77, 77, 77}) {
		t.Errorf("the argument is now %v", room)
	}
}

func TestSourceKeepsACopy(t *testing.T) {
	room := []byte{1, 2, 3, 4, 5, 6}
	s := octet.Read(room[:4])
	room[0], room[3], room[4] = 90, 90, 90
	first := s.Bytes(2)
	if !bytes.Equal(first, []byte{1, 2}) {
		t.Errorf("Bytes: %v, want 1 2", first)
	}
	first = first[:cap(first)]
	for i := range first {
		first[i] = 50
	}
	if rest := s.Bytes(2); !bytes.Equal(rest, []byte{3, 4}) {
		t.Errorf("Bytes: %v, want 3 4", rest)
	}
	wantErr(t, "End", s.End(), api.OK)
	if !bytes.Equal(room, []byte{90, 2, 3, 90, 90, 6}) {
		t.Errorf("the argument is now %v", room)
	}
}

func TestSourceTellsInARow(t *testing.T) {
	b := octet.Put(nil, 0x010203, 3, false)
	b = octet.Put(b, 0x010203, 3, true)
	b = octet.Var(b, 300)
	b = append(b, 42)
	b = octet.Put(b, 1<<63, 8, false)
	b = octet.Put(b, top-4, 8, true)
	b = append(b, "text"...)
	s := octet.Read(b)
	left := len(b)
	gone := func(count int) {
		t.Helper()
		left -= count
		if s.Left() != left {
			t.Errorf("Left: %d, want %d", s.Left(), left)
		}
		wantErr(t, "Err", s.Err(), api.OK)
	}
	gone(0)
	if n := s.Num(3, false); n != 0x010203 {
		t.Errorf("Num: %x", n)
	}
	gone(3)
	if n := s.Num(3, true); n != 0x010203 {
		t.Errorf("Num, little: %x", n)
	}
	gone(3)
	if n := s.Var(300); n != 300 {
		t.Errorf("Var: %d", n)
	}
	gone(2)
	if c := s.Byte(); c != 42 {
		t.Errorf("Byte: %d", c)
	}
	gone(1)
	if n := s.Int(false); n != math.MinInt {
		t.Errorf("Int: %d", n)
	}
	gone(8)
	if n := s.Int(true); n != -5 {
		t.Errorf("Int, little: %d", n)
	}
	gone(8)
	if b := s.Bytes(0); len(b) != 0 {
		t.Errorf("Bytes of none: %v", b)
	}
	gone(0)
	wantErr(t, "End with bytes left", s.End(), api.ErrBad)
	gone(0)
	if b := s.Bytes(4); string(b) != "text" {
		t.Errorf("Bytes: %q", b)
	}
	gone(4)
	wantErr(t, "End", s.End(), api.OK)
	if b := s.Bytes(0); len(b) != 0 {
		t.Errorf("Bytes of none at the end: %v", b)
	}
	gone(0)
}

func TestSourceNumIsAsGet(t *testing.T) {
	b := []byte{255, 1, 2, 128, 4, 5, 6, 7, 254}
	for _, little := range []bool{false, true} {
		for size := 1; size <= 8; size++ {
			want, _ := octet.Get(b, size, little)
			s := octet.Read(b)
			if got := s.Num(size, little); got != want || s.Left() != 9-size || s.Err() != api.OK {
				t.Errorf("Num of %d bytes: %d, %d left, %s; want %d", size, got, s.Left(), s.Err(), want)
			}
		}
	}
}

func TestSourceGetsWhatWasPut(t *testing.T) {
	all := numbers()
	var b []byte
	for i, n := range all {
		b = octet.Var(b, n)
		b = octet.Put(b, n, 8, i%2 == 0)
		b = octet.Put(b, n, 8, i%2 == 1)
	}
	s := octet.Read(b)
	for i, n := range all {
		v, w, x := s.Var(n), s.Num(8, i%2 == 0), s.Int(i%2 == 1)
		if v != n || w != n || x != int(n) {
			t.Fatalf("of %d: %d %d %d, %s", n, v, w, x, s.Err())
		}
	}
	wantErr(t, "End", s.End(), api.OK)
}

// The first error is told; where two apply, the one that the chapter names first.
func TestSourceErrors(t *testing.T) {
	for _, c := range []struct {
		what string
		b    []byte
		do   func(s *octet.Source) bool
		want api.Errno
	}{
		{"Num of too few", []byte{1, 2}, func(s *octet.Source) bool { return s.Num(3, false) == 0 }, api.ErrShort},
		{"Num of nothing", nil, func(s *octet.Source) bool { return s.Num(1, true) == 0 }, api.ErrShort},
		{"Num of size 0", []byte{1, 2}, func(s *octet.Source) bool { return s.Num(0, false) == 0 }, api.ErrArg},
		{"Num of size 0, of nothing", nil, func(s *octet.Source) bool { return s.Num(0, false) == 0 }, api.ErrArg},
		{"Num of size -1", []byte{1, 2}, func(s *octet.Source) bool { return s.Num(-1, false) == 0 }, api.ErrArg},
		{"Num of the least size", nil, func(s *octet.Source) bool { return s.Num(math.MinInt, true) == 0 }, api.ErrArg},
		{"Num of size 9", make([]byte, 9), func(s *octet.Source) bool { return s.Num(9, false) == 0 }, api.ErrArg},
		{"Num of size 9, of 8 bytes", make([]byte, 8), func(s *octet.Source) bool { return s.Num(9, false) == 0 }, api.ErrShort},
		{"Num of the greatest size", []byte{1, 2}, func(s *octet.Source) bool { return s.Num(math.MaxInt, false) == 0 }, api.ErrShort},
		{"Int of too few", []byte{1, 2, 3, 4, 5, 6, 7}, func(s *octet.Source) bool { return s.Int(false) == 0 }, api.ErrShort},
		{"Byte of nothing", nil, func(s *octet.Source) bool { return s.Byte() == 0 }, api.ErrShort},
		{"Bytes of too few", []byte{1, 2}, func(s *octet.Source) bool { return len(s.Bytes(3)) == 0 }, api.ErrShort},
		{"Bytes of the greatest number", []byte{1, 2}, func(s *octet.Source) bool { return len(s.Bytes(math.MaxInt)) == 0 }, api.ErrShort},
		{"Bytes of -1", []byte{1, 2}, func(s *octet.Source) bool { return len(s.Bytes(-1)) == 0 }, api.ErrArg},
		{"Bytes of the least number", nil, func(s *octet.Source) bool { return len(s.Bytes(math.MinInt)) == 0 }, api.ErrArg},
		{"Var of nothing", nil, func(s *octet.Source) bool { return s.Var(top) == 0 }, api.ErrShort},
		{"Var without an end", []byte{130}, func(s *octet.Source) bool { return s.Var(0) == 0 }, api.ErrShort},
		{"Var without an end, that could be shorter", []byte{128, 128}, func(s *octet.Source) bool { return s.Var(top) == 0 }, api.ErrShort},
		{"Var of eight bytes without an end", slices.Repeat([]byte{255}, 8), func(s *octet.Source) bool { return s.Var(top) == 0 }, api.ErrShort},
		{"Var that could be shorter", []byte{128, 5, 1}, func(s *octet.Source) bool { return s.Var(top) == 0 }, api.ErrBad},
		{"Var that could be shorter, above most", []byte{128, 5, 1}, func(s *octet.Source) bool { return s.Var(4) == 0 }, api.ErrBad},
		{"Var of nine bytes that could be eight", []byte{128, 191, 255, 255, 255, 255, 255, 255, 255}, func(s *octet.Source) bool { return s.Var(top) == 0 }, api.ErrBad},
		{"Var above most", []byte{130, 44, 1}, func(s *octet.Source) bool { return s.Var(299) == 0 }, api.ErrRange},
		{"Var above 0", []byte{1}, func(s *octet.Source) bool { return s.Var(0) == 0 }, api.ErrRange},
		{"Var above all but one", slices.Repeat([]byte{255}, 9), func(s *octet.Source) bool { return s.Var(top-1) == 0 }, api.ErrRange},
	} {
		s := octet.Read(c.b)
		if !c.do(s) {
			t.Errorf("%s: an answer beside the error", c.what)
		}
		wantErr(t, c.what, s.Err(), c.want)
		silent(t, c.what, s, c.want)
	}
}

// silent holds all of a source's calls to zero values, and to the error that it keeps.
func silent(t *testing.T, what string, s *octet.Source, want api.Errno) {
	t.Helper()
	for range 2 {
		if s.Num(1, false) != 0 || s.Num(0, true) != 0 || s.Num(math.MaxInt, true) != 0 || s.Int(false) != 0 {
			t.Errorf("%s: a number behind the error", what)
		}
		if s.Var(top) != 0 || s.Var(0) != 0 || s.Byte() != 0 || s.Left() != 0 {
			t.Errorf("%s: a number behind the error", what)
		}
		if len(s.Bytes(0)) != 0 || len(s.Bytes(1)) != 0 || len(s.Bytes(-1)) != 0 || len(s.Bytes(math.MaxInt)) != 0 {
			t.Errorf("%s: bytes behind the error", what)
		}
		wantErr(t, what+", Err behind it", s.Err(), want)
		wantErr(t, what+", End behind it", s.End(), want)
	}
}

func TestSourceThatNoCallMade(t *testing.T) {
	silent(t, "nil", nil, api.ErrMade)
	silent(t, "a zero value", &octet.Source{}, api.ErrMade)
	silent(t, "new", new(octet.Source), api.ErrMade)
}

func TestEndStaysNot(t *testing.T) {
	s := octet.Read([]byte{9})
	wantErr(t, "End", s.End(), api.ErrBad)
	wantErr(t, "End again", s.End(), api.ErrBad)
	wantErr(t, "Err behind End", s.Err(), api.OK)
	if s.Left() != 1 || s.Byte() != 9 {
		t.Errorf("the byte is gone behind End")
	}
	wantErr(t, "End at the end", s.End(), api.OK)
	s.Byte()
	wantErr(t, "End behind an error", s.End(), api.ErrShort)
}

func TestReadOfNothing(t *testing.T) {
	for _, b := range [][]byte{nil, {}} {
		s := octet.Read(b)
		if s.Left() != 0 || s.Err() != api.OK || s.End() != api.OK {
			t.Errorf("Read of nothing: %d %s %s", s.Left(), s.Err(), s.End())
		}
	}
}

func TestSourcesAreApart(t *testing.T) {
	b := []byte{1, 2, 3}
	one, two := octet.Read(b), octet.Read(b)
	one.Bytes(3)
	one.Byte()
	if two.Left() != 3 || two.Err() != api.OK || two.Byte() != 1 {
		t.Errorf("a source is changed by another one")
	}
}

// What Take tells is what Var puts, and a source answers as Take.
func FuzzTake(f *testing.F) {
	for _, b := range [][]byte{{}, {0}, {127}, {128}, {128, 0}, {130, 44}, {255, 255, 255, 255, 255, 255, 255, 255, 255}, {128, 191, 255, 255, 255, 255, 255, 255, 255}, {128, 192, 128, 128, 128, 128, 128, 128, 0, 9}} {
		f.Add(b)
	}
	f.Fuzz(func(t *testing.T, b []byte) {
		n, size := octet.Take(b)
		if size > 0 && !bytes.Equal(octet.Var(nil, n), b[:size]) {
			t.Fatalf("Take of %v: %d, of %d bytes", b, n, size)
		}
		s := octet.Read(b)
		got := s.Var(top)
		if got != n || (s.Err() == api.OK) != (size > 0) {
			t.Fatalf("Source.Var of %v: %d %s, Take: %d %d", b, got, s.Err(), n, size)
		}
		if size > 0 && s.Left() != len(b)-size {
			t.Fatalf("Left behind a Var of %v: %d", b, s.Left())
		}
	})
}
