package wide_test

import (
	"math"
	"math/big"
	"strings"
	"testing"

	"hachure/wide"
)

const top = math.MaxUint64

// greatest is 2^192 - 1.
var greatest = wide.U{top, top, top}

// words are those at which carries, borrows and digits turn.
var words = []uint64{
	0, 1, 2, 9, 10, 11, 99, 100,
	1<<32 - 1, 1 << 32, 1<<63 - 1, 1 << 63, 1<<63 + 1,
	9999999999999999999, 10000000000000000000, 10000000000000000001,
	top - 1, top,
}

var ints = []int{
	math.MinInt, math.MinInt + 1, -1 << 32, -10, -2, -1,
	0, 1, 2, 10, 1 << 32, math.MaxInt - 1, math.MaxInt,
}

// mixed tells count words that are the same in each run.
func mixed(count int) []uint64 {
	out := make([]uint64, count)
	seed := uint64(88172645463325252)
	for i := range out {
		seed ^= seed << 13
		seed ^= seed >> 7
		seed ^= seed << 17
		out[i] = seed
	}
	return out
}

// numbers are all that words make in three places, and some without a rule.
func numbers() []wide.U {
	var out []wide.U
	few := []uint64{0, 1, 1 << 63, top - 1, top}
	for _, a := range few {
		for _, b := range few {
			for _, c := range few {
				out = append(out, wide.U{a, b, c})
			}
		}
	}
	for _, w := range words {
		out = append(out, wide.U{w}, wide.U{0, w}, wide.U{0, 0, w}, wide.U{w, w, w})
	}
	m := mixed(90)
	for i := 0; i+2 < len(m); i += 3 {
		out = append(out, wide.U{m[i], m[i+1], m[i+2]}, wide.U{m[i], m[i+1]}, wide.U{m[i]})
	}
	return out
}

func bigOf(a wide.U) *big.Int {
	n := new(big.Int)
	for i := len(a) - 1; i >= 0; i-- {
		n.Lsh(n, 64)
		n.Or(n, new(big.Int).SetUint64(a[i]))
	}
	return n
}

// fits asks whether there is a U of n.
func fits(n *big.Int) bool { return n.Sign() >= 0 && n.BitLen() <= 192 }

// holds fails unless got, ok are n, true; or zero, false if no U has it.
func holds(t *testing.T, what string, got wide.U, ok bool, n *big.Int) {
	t.Helper()
	if !fits(n) {
		if ok || got != (wide.U{}) {
			t.Fatalf("%s: %v, %v, want zero, false", what, got, ok)
		}
		return
	}
	if !ok || bigOf(got).Cmp(n) != 0 {
		t.Fatalf("%s: %v, %v, want %v, true", what, got, ok, n)
	}
}

func TestOf(t *testing.T) {
	for _, n := range append(mixed(50), words...) {
		if got := wide.Of(n); got != (wide.U{n, 0, 0}) {
			t.Errorf("Of(%d): %v", n, got)
		}
	}
}

func TestSpan(t *testing.T) {
	for _, a := range ints {
		for _, b := range ints {
			want := new(big.Int).Sub(big.NewInt(int64(b)), big.NewInt(int64(a)))
			if want.Sign() < 0 {
				want.SetInt64(0)
			}
			if got := wide.Span(a, b); new(big.Int).SetUint64(got).Cmp(want) != 0 {
				t.Errorf("Span(%d, %d): %d, want %v", a, b, got, want)
			}
		}
	}
}

func TestSpanEdges(t *testing.T) {
	for _, c := range []struct {
		a, b int
		want uint64
	}{
		{math.MinInt, math.MaxInt, top},
		{math.MinInt, 0, 1 << 63},
		{0, math.MaxInt, 1<<63 - 1},
		{math.MaxInt, math.MinInt, 0},
		{7, 6, 0},
		{7, 7, 0},
		{-3, 4, 7},
	} {
		if got := wide.Span(c.a, c.b); got != c.want {
			t.Errorf("Span(%d, %d): %d, want %d", c.a, c.b, got, c.want)
		}
	}
}

func TestTimes(t *testing.T) {
	all := append(mixed(40), words...)
	for _, a := range all {
		for _, b := range all {
			want := new(big.Int).Mul(new(big.Int).SetUint64(a), new(big.Int).SetUint64(b))
			holds(t, "Times", wide.Times(a, b), true, want)
		}
	}
}

func TestAddSubCmp(t *testing.T) {
	all := numbers()
	for _, a := range all {
		for _, b := range all {
			x, y := bigOf(a), bigOf(b)
			sum, ok := wide.Add(a, b)
			holds(t, "Add", sum, ok, new(big.Int).Add(x, y))
			rest, ok := wide.Sub(a, b)
			holds(t, "Sub", rest, ok, new(big.Int).Sub(x, y))
			if got := wide.Cmp(a, b); got != x.Cmp(y) {
				t.Fatalf("Cmp(%v, %v): %d, want %d", a, b, got, x.Cmp(y))
			}
		}
	}
}

func TestAddEdges(t *testing.T) {
	for _, c := range []struct {
		a, b, want wide.U
		ok         bool
	}{
		{wide.U{}, wide.U{}, wide.U{}, true},
		{greatest, wide.U{}, greatest, true},
		{wide.U{}, greatest, greatest, true},
		{greatest, wide.U{1}, wide.U{}, false},
		{wide.U{1}, greatest, wide.U{}, false},
		{greatest, greatest, wide.U{}, false},
		{wide.U{0, 0, 1 << 63}, wide.U{0, 0, 1 << 63}, wide.U{}, false},
		{wide.U{top, top, top - 1}, wide.U{1}, wide.U{0, 0, top}, true},
		{wide.U{top}, wide.U{1}, wide.U{0, 1}, true},
		{wide.U{top, top}, wide.U{1}, wide.U{0, 0, 1}, true},
		{wide.U{top, top, 3}, wide.U{top, top, 4}, wide.U{top - 1, top, 8}, true},
	} {
		if got, ok := wide.Add(c.a, c.b); got != c.want || ok != c.ok {
			t.Errorf("Add(%v, %v): %v, %v", c.a, c.b, got, ok)
		}
	}
}

func TestSubEdges(t *testing.T) {
	for _, c := range []struct {
		a, b, want wide.U
		ok         bool
	}{
		{wide.U{}, wide.U{}, wide.U{}, true},
		{wide.U{}, wide.U{1}, wide.U{}, false},
		{wide.U{}, greatest, wide.U{}, false},
		{greatest, greatest, wide.U{}, true},
		{greatest, wide.U{}, greatest, true},
		{wide.U{0, 1}, wide.U{1}, wide.U{top}, true},
		{wide.U{0, 0, 1}, wide.U{1}, wide.U{top, top}, true},
		{wide.U{top, top}, wide.U{0, 0, 1}, wide.U{}, false},
		{wide.U{top, 0, 5}, wide.U{0, 1, 5}, wide.U{}, false},
	} {
		if got, ok := wide.Sub(c.a, c.b); got != c.want || ok != c.ok {
			t.Errorf("Sub(%v, %v): %v, %v", c.a, c.b, got, ok)
		}
	}
}

func TestCmpEdges(t *testing.T) {
	rising := []wide.U{
		{}, {1}, {top}, {0, 1}, {1, 1}, {top, 1}, {0, top}, {top, top},
		{0, 0, 1}, {top, 0, 1}, {0, 1, 1}, {0, 0, 1 << 63}, {0, 0, top}, greatest,
	}
	for i, a := range rising {
		for j, b := range rising {
			want := 0
			if i < j {
				want = -1
			} else if i > j {
				want = 1
			}
			if got := wide.Cmp(a, b); got != want {
				t.Errorf("Cmp(%v, %v): %d, want %d", a, b, got, want)
			}
		}
	}
}

func TestBits(t *testing.T) {
	for _, a := range numbers() {
		if got, want := a.Bits(), bigOf(a).BitLen(); got != want {
			t.Errorf("Bits of %v: %d, want %d", a, got, want)
		}
	}
	if got := (wide.U{}).Bits(); got != 0 {
		t.Errorf("Bits of 0: %d", got)
	}
	if got := greatest.Bits(); got != 192 {
		t.Errorf("Bits of 2^192 - 1: %d", got)
	}
	for i := range 192 {
		var power wide.U
		power[i/64] = 1 << (i % 64)
		if got := power.Bits(); got != i+1 {
			t.Errorf("Bits of 2^%d: %d", i, got)
		}
	}
}

func TestText(t *testing.T) {
	for _, a := range numbers() {
		if got, want := a.Text(), bigOf(a).String(); got != want {
			t.Errorf("Text of %v: %s, want %s", a, got, want)
		}
	}
	for _, c := range []struct {
		a    wide.U
		want string
	}{
		{wide.U{}, "0"},
		{wide.U{7}, "7"},
		{wide.U{10}, "10"},
		{wide.U{top}, "18446744073709551615"},
		{wide.U{0, 1}, "18446744073709551616"},
		{wide.U{0, 0, 1}, "340282366920938463463374607431768211456"},
		{greatest, "6277101735386680763835789423207666416102355444464034512895"},
	} {
		if got := c.a.Text(); got != c.want {
			t.Errorf("Text of %v: %s, want %s", c.a, got, c.want)
		}
	}
}

// TestPowersOfTen looks where texts get longer: 10^n, and one below and above it.
func TestPowersOfTen(t *testing.T) {
	for n := range 58 {
		power := "1" + strings.Repeat("0", n)
		a, ok := wide.Parse(power)
		if !ok || a.Text() != power {
			t.Fatalf("10^%d: %v, %v", n, a, ok)
		}
		below, _ := wide.Sub(a, wide.Of(1))
		above, _ := wide.Add(a, wide.Of(1))
		for _, u := range []wide.U{below, above} {
			if got, want := u.Text(), bigOf(u).String(); got != want {
				t.Errorf("Text of %v: %s, want %s", u, got, want)
			}
			if again, ok := wide.Parse(u.Text()); !ok || again != u {
				t.Errorf("Parse of %s: %v, %v", u.Text(), again, ok)
			}
		}
	}
}

func TestParse(t *testing.T) {
	for _, c := range []struct {
		s    string
		want wide.U
	}{
		{"0", wide.U{}},
		{"1", wide.U{1}},
		{"9", wide.U{9}},
		{"10", wide.U{10}},
		{"1000000", wide.U{1000000}},
		{"18446744073709551615", wide.U{top}},
		{"18446744073709551616", wide.U{0, 1}},
		{"340282366920938463463374607431768211455", wide.U{top, top}},
		{"340282366920938463463374607431768211456", wide.U{0, 0, 1}},
		{"6277101735386680763835789423207666416102355444464034512894", wide.U{top - 1, top, top}},
		{"6277101735386680763835789423207666416102355444464034512895", greatest},
	} {
		if got, ok := wide.Parse(c.s); got != c.want || !ok {
			t.Errorf("Parse(%q): %v, %v", c.s, got, ok)
		}
	}
}

// wrongTexts are the Text of no number.
func wrongTexts() []string {
	return []string{
		"", " ", "\x00", "\n",
		"00", "01", "007", "0018446744073709551615", "00000000000",
		strings.Repeat("0", 58) + "1", strings.Repeat("0", 1000),
		"+1", "-1", "-0", "+0", "+", "-", "--1",
		" 1", "1 ", "1\n", "\t1", "1 2", "1\x00", "\x001",
		"0x10", "0b1", "0o7", "1e3", "1.0", "1.", ".1", "1,000", "1_000", "ff", "a", "1a", "a1",
		"/", ":", "1/", "1:", "12:4",
		"\u0663", "1\u0663", "\uff11", "\u00b2", "\u00bd", "1\u200b", "\ufeff1", "\u221e",
		"\xff", "1\xff", "\xff1", "\xc0\xb1", "1\xe2\x82", "\ufffd",
		"6277101735386680763835789423207666416102355444464034512896",
		"6277101735386680763835789423207666416102355444464034512897",
		"6277101735386680763835789423207666416102355444464034512900",
		"6277101735386680763835789423207666416102355444464034513000",
		"6300000000000000000000000000000000000000000000000000000000",
		"7000000000000000000000000000000000000000000000000000000000",
		strings.Repeat("9", 58), "1" + strings.Repeat("0", 58),
		"62771017353866807638357894232076664161023554444640345128950",
		strings.Repeat("1", 59), strings.Repeat("1", 1<<20),
	}
}

func TestParseWrong(t *testing.T) {
	for _, s := range wrongTexts() {
		if got, ok := wide.Parse(s); ok || got != (wide.U{}) {
			t.Errorf("Parse(%.70q): %v, %v, want zero, false", s, got, ok)
		}
	}
}

// TestParseOneWrongByte puts each byte that is no digit at each place of a number.
func TestParseOneWrongByte(t *testing.T) {
	const right = "1234567890"
	for at := range len(right) {
		for b := range 256 {
			if '0' <= b && b <= '9' {
				continue
			}
			s := right[:at] + string([]byte{byte(b)}) + right[at+1:]
			if got, ok := wide.Parse(s); ok || got != (wide.U{}) {
				t.Fatalf("Parse(%q): %v, %v, want zero, false", s, got, ok)
			}
		}
	}
}

func TestWhatWasAddedIsTakenAway(t *testing.T) {
	all := numbers()
	for _, a := range all {
		for _, b := range all {
			sum, ok := wide.Add(a, b)
			if !ok {
				continue
			}
			if again, ok := wide.Sub(sum, b); !ok || again != a {
				t.Fatalf("%v and %v, less that: %v, %v", a, b, again, ok)
			}
			if again, ok := wide.Sub(sum, a); !ok || again != b {
				t.Fatalf("%v and %v, less the first: %v, %v", a, b, again, ok)
			}
		}
	}
}

func TestParseOfText(t *testing.T) {
	for _, a := range numbers() {
		if again, ok := wide.Parse(a.Text()); !ok || again != a {
			t.Errorf("Parse of %s: %v, %v, want %v", a.Text(), again, ok, a)
		}
	}
}

func TestExample(t *testing.T) {
	n := wide.Span(-1<<63, 1<<63-1)
	if n != top {
		t.Errorf("Span: %d", n)
	}
	if got := wide.Times(n, n).Text(); got != "340282366920938463426481119284349108225" {
		t.Errorf("Times: %s", got)
	}
}

// FuzzParse holds Parse to what it says: a text is taken just if it is its number's Text.
func FuzzParse(f *testing.F) {
	for _, s := range wrongTexts() {
		f.Add(s)
	}
	for _, a := range numbers() {
		f.Add(a.Text())
	}
	f.Fuzz(func(t *testing.T, s string) {
		got, ok := wide.Parse(s)
		want := false
		if len(s) <= 100 { // big is slow with long texts, and none of those is a number's
			n, isNumber := new(big.Int).SetString(s, 10)
			want = isNumber && n.String() == s && fits(n)
		}
		if ok != want {
			t.Fatalf("Parse(%q): %v", s, ok)
		}
		if ok && got.Text() != s || !ok && got != (wide.U{}) {
			t.Fatalf("Parse(%q): %v, %v", s, got, ok)
		}
	})
}
