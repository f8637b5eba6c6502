package sum_test

import (
	"bytes"
	"hash/crc32"
	"math"
	"slices"
	"testing"

	"hachure/sum"
)

// nines are the digits of the chapter's example, and whole is their sum.
const (
	nines = "123456789"
	whole = 0xe3069283
)

// cycle is after how many bytes a remainder is what it was: x has that order, which is a prime, so x^8 has it too.
const cycle = 1<<31 - 1

// ends are sums at the ends of 32 bits and of their halves.
var ends = []uint32{0, 1, 2, 1 << 15, 1 << 16, 1<<31 - 1, 1 << 31, 1<<31 + 1, whole, math.MaxUint32 - 1, math.MaxUint32}

// mixed tells count bytes that are the same in each run.
func mixed(count int) []byte {
	out := make([]byte, count)
	seed := uint64(88172645463325252)
	for i := range out {
		seed ^= seed << 13
		seed ^= seed >> 7
		seed ^= seed << 17
		out[i] = byte(seed >> 32)
	}
	return out
}

// lists are bytes of many lengths and kinds.
func lists() [][]byte {
	out := [][]byte{nil, {}, []byte(nines), {0}, {1}, {128}, {255}, {0, 0, 0, 0}, {255, 255, 255, 255}}
	for size := 1; size <= 40; size++ {
		out = append(out, mixed(size), make([]byte, size), bytes.Repeat([]byte{255}, size))
	}
	for c := range 256 {
		out = append(out, []byte{byte(c)}, []byte{17, byte(c)})
	}
	return append(out, mixed(128), mixed(512), mixed(20000))
}

// divided is the sum of b by the chapter's words: a division, bit by bit, with no table.
func divided(b []byte) uint32 {
	powers := []int{32, 28, 27, 26, 25, 23, 22, 20, 19, 18, 14, 13, 11, 10, 9, 8, 6, 0}
	row := make([]int, 0, 8*len(b)+32)
	for _, c := range b {
		for bit := range 8 {
			row = append(row, int(c>>bit&1))
		}
	}
	row = append(row, make([]int, 32)...)
	for i := range 32 {
		row[i] ^= 1
	}
	for i := range 8 * len(b) {
		if row[i] == 1 {
			for _, p := range powers {
				row[i+32-p] ^= 1
			}
		}
	}
	out := uint32(0)
	for i, bit := range row[8*len(b):] {
		out |= uint32(bit^1) << i
	}
	return out
}

func same(t *testing.T, what string, got, want uint32) {
	t.Helper()
	if got != want {
		t.Errorf("%s: %08x, want %08x", what, got, want)
	}
}

func TestExamples(t *testing.T) {
	same(t, "Of the nine digits", sum.Of([]byte(nines)), whole)
	same(t, "Of nothing", sum.Of([]byte{}), 0)
	same(t, "Of nil", sum.Of(nil), 0)
}

// TestKnownSums: those that RFC 3720, B.4, tells of CRC-32C.
func TestKnownSums(t *testing.T) {
	rise := make([]byte, 32)
	for i := range rise {
		rise[i] = byte(i)
	}
	fall := slices.Clone(rise)
	slices.Reverse(fall)
	same(t, "Of 32 noughts", sum.Of(make([]byte, 32)), 0x8a9136aa)
	same(t, "Of 32 bytes 255", sum.Of(bytes.Repeat([]byte{255}, 32)), 0x62a8ab43)
	same(t, "Of 0 to 31", sum.Of(rise), 0x46dd794e)
	same(t, "Of 31 to 0", sum.Of(fall), 0x113fdb5c)
}

func TestOfIsTheRemainder(t *testing.T) {
	table := crc32.MakeTable(crc32.Castagnoli)
	for _, b := range lists() {
		if got, want := sum.Of(b), divided(b); got != want {
			t.Fatalf("Of %v: %08x, want %08x", b, got, want)
		}
		if got, want := sum.Of(b), crc32.Checksum(b, table); got != want {
			t.Fatalf("Of %v: %08x, the library has %08x", b, got, want)
		}
	}
}

func TestOfTellsTurnedBits(t *testing.T) {
	b := mixed(512)
	seen := map[uint32]int{sum.Of(b): -1}
	for at := range 8 * len(b) {
		b[at/8] ^= 1 << (at % 8)
		s := sum.Of(b)
		if other, known := seen[s]; known {
			t.Fatalf("bit %d turned has the sum of bit %d turned", at, other)
		}
		seen[s] = at
		b[at/8] ^= 1 << (at % 8)
	}
}

func TestAddOfNothing(t *testing.T) {
	for _, s := range ends {
		same(t, "Add of nil", sum.Add(s, nil), s)
		same(t, "Add of nothing", sum.Add(s, []byte{}), s)
	}
}

func TestAddAtTheEnds(t *testing.T) {
	table := crc32.MakeTable(crc32.Castagnoli)
	for _, s := range ends {
		for _, b := range lists() {
			if got, want := sum.Add(s, b), crc32.Update(s, table, b); got != want {
				t.Fatalf("Add to %08x of %v: %08x, want %08x", s, b, got, want)
			}
		}
	}
}

func TestPiecesCutAnywhere(t *testing.T) {
	b := append([]byte(nines), mixed(300)...)
	want := divided(b)
	for at := range len(b) + 1 {
		head, tail := b[:at], b[at:]
		same(t, "Add", sum.Add(sum.Of(head), tail), want)
		same(t, "Join", sum.Join(sum.Of(head), sum.Of(tail), len(tail)), want)
	}
}

func TestThreePieces(t *testing.T) {
	b := mixed(40)
	want := divided(b)
	for i := range len(b) + 1 {
		for j := i; j <= len(b); j++ {
			x, y, z := sum.Of(b[:i]), sum.Of(b[i:j]), sum.Of(b[j:])
			same(t, "Adds", sum.Add(sum.Add(x, b[i:j]), b[j:]), want)
			same(t, "Joins from the left", sum.Join(sum.Join(x, y, j-i), z, len(b)-j), want)
			same(t, "Joins from the right", sum.Join(x, sum.Join(y, z, len(b)-j), len(b)-i), want)
		}
	}
}

func TestByteByByte(t *testing.T) {
	b := mixed(2000)
	added, joined := sum.Of(nil), sum.Of(nil)
	for i := range b {
		added = sum.Add(added, b[i:i+1])
		joined = sum.Join(joined, sum.Of(b[i:i+1]), 1)
	}
	same(t, "Add byte by byte", added, divided(b))
	same(t, "Join byte by byte", joined, divided(b))
}

func TestJoinOfNoBytes(t *testing.T) {
	for _, a := range ends {
		for _, n := range []int{0, -1, -2, -8, -1 << 31, -1 << 32, math.MinInt + 1, math.MinInt} {
			same(t, "Join of no bytes", sum.Join(a, sum.Of(nil), n), a)
		}
	}
}

// TestJoinBelowNought: a number of bytes below 0 counts as 0, be the sums those of bytes or not.
func TestJoinBelowNought(t *testing.T) {
	for _, a := range ends {
		for _, b := range ends {
			want := sum.Join(a, b, 0)
			for _, n := range []int{-1, -5, -cycle, math.MinInt + 1, math.MinInt} {
				same(t, "Join below 0", sum.Join(a, b, n), want)
			}
		}
	}
}

func TestJoinBehindNothing(t *testing.T) {
	for _, b := range lists() {
		same(t, "Join behind nothing", sum.Join(0, sum.Of(b), len(b)), sum.Of(b))
	}
}

func TestJoinOfManyBytes(t *testing.T) {
	b := make([]byte, 1<<20+3)
	copy(b[1<<19:], mixed(1000))
	for _, a := range ends {
		for _, size := range []int{1 << 16, 1<<20 - 1, 1 << 20, len(b)} {
			same(t, "Join", sum.Join(a, sum.Of(b[:size]), size), sum.Add(a, b[:size]))
		}
	}
}

// TestJoinOfVeryManyBytes: where bytes can't be written out, the cycle tells which few would do as well.
func TestJoinOfVeryManyBytes(t *testing.T) {
	counts := []int{cycle, cycle + 1, cycle + 3, 5*cycle + 17, math.MaxInt - 1, math.MaxInt}
	for bit := 31; bit < 63; bit++ {
		counts = append(counts, 1<<bit, 1<<bit+9)
	}
	for _, a := range ends {
		for _, b := range ends {
			for _, n := range counts {
				same(t, "Join", sum.Join(a, b, n), sum.Join(a, b, n%cycle))
			}
		}
	}
	// 2^63 - 1 is one more than a multiple of the cycle.
	for _, a := range ends {
		same(t, "Join of 2^63 - 1 bytes", sum.Join(a, sum.Of([]byte{77}), math.MaxInt), sum.Add(a, []byte{77}))
	}
}

// TestJoinOfSumsOfNoBytes: few bytes have few of all sums; of the others Join still answers, and parts as a sum of bits does.
func TestJoinOfSumsOfNoBytes(t *testing.T) {
	for _, n := range []int{0, 1, 2, 3, 4, 100, math.MaxInt} {
		for _, a := range ends {
			for _, b := range ends {
				same(t, "Join", sum.Join(a, b, n), sum.Join(a, 0, n)^b)
				same(t, "Join", sum.Join(a^b, 0, n), sum.Join(a, 0, n)^sum.Join(b, 0, n))
			}
		}
	}
}

// TestJoinHangsOnEachBitAhead: no two sums ahead lead to one sum.
func TestJoinHangsOnEachBitAhead(t *testing.T) {
	for _, n := range []int{0, 1, 5, 1 << 20, math.MaxInt} {
		seen := map[uint32]bool{sum.Join(0, whole, n): true}
		for bit := range 32 {
			s := sum.Join(uint32(1)<<bit, whole, n)
			if seen[s] {
				t.Errorf("Join of %d bytes: bit %d ahead leads to the sum of another one", n, bit)
			}
			seen[s] = true
		}
	}
}

func TestArgumentsStay(t *testing.T) {
	room := append(mixed(64), 1, 2, 3)
	kept := slices.Clone(room)
	first := sum.Of(room[:64])
	sum.Add(first, room[:64])
	if !bytes.Equal(room, kept) {
		t.Errorf("bytes that were handed in are changed")
	}
	same(t, "Of once more", sum.Of(room[:64]), first)
}
