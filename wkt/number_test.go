package wkt_test

import (
	"math/big"
	"regexp"
	"strings"
	"testing"

	"hachure/wkt"
)

// ordinates are some, and what they are as texts.
func ordinates() map[int]string {
	return map[int]string{
		0: "0", 1: "0.0000001", -1: "-0.0000001", 9: "0.0000009", 10: "0.000001", -10: "-0.000001", 100: "0.00001",
		1000: "0.0001", 10000: "0.001", 100000: "0.01", -100000: "-0.01", 1000000: "0.1", -1000000: "-0.1", 5000000: "0.5", -5000000: "-0.5",
		9999999: "0.9999999", -9999999: "-0.9999999", 1234567: "0.1234567", 1234560: "0.123456", 1234500: "0.12345", 1234000: "0.1234",
		1230000: "0.123", 1200000: "0.12", 1020304: "0.1020304", 1000001: "0.1000001", 1000010: "0.100001", 200: "0.00002",
		whole: "1", -whole: "-1", whole + 1: "1.0000001", -whole - 1: "-1.0000001", 15000000: "1.5", -20000000: "-2", 10 * whole: "10", 100 * whole: "100",
		100000001: "10.0000001", -123456789012345: "-12345678.9012345", 1020304050607080: "102030405.060708", 7000000000000000000: "700000000000",
		most: "922337203685.4775807", most - 1: "922337203685.4775806", most - 7: "922337203685.47758", least: "-922337203685.4775807", least + 7: "-922337203685.47758",
		922337203685 * whole: "922337203685", -922337203685 * whole: "-922337203685",
	}
}

func TestOrdinate(t *testing.T) {
	for n, want := range ordinates() {
		if got := wkt.Ordinate(n); got != want {
			t.Errorf("Ordinate(%d): %q, want %q", n, got, want)
		}
		wantNumber(t, want, n)
	}
}

// The ordinate that no point has is a text like others, but no Number says it.
func TestNowhere(t *testing.T) {
	const want = "-922337203685.4775808"
	if got := wkt.Ordinate(nowhere); got != want {
		t.Errorf("Ordinate(%d): %q, want %q", nowhere, got, want)
	}
	wantNoNumber(t, want)
}

func TestNumber(t *testing.T) {
	for s, want := range map[string]int{
		"+0": 0, "-0": 0, "-0.0000000": 0, "+0.0": 0, "00": 0, "+1": whole, "-1": -whole, "1": whole, "+1.5": 15000000, "-1.50": -15000000,
		"1.0": whole, "1.0000000": whole, "1.00": whole, "0.1": 1000000, "0.12": 1200000, "0.123": 1230000, "0.1234": 1234000, "0.12345": 1234500,
		"0.123456": 1234560, "0.1234567": 1234567, "-0.1234567": -1234567, "0.0000001": 1, "-0.0000001": -1, "0.0000010": 10, "0.01": 100000,
		"007": 7 * whole, "-007.7": -77000000, "+000000000000000000000000000000000000001": whole, "10": 10 * whole, "1000000": 1000000 * whole,
		"922337203685": 922337203685 * whole, "+922337203685.4775807": most, "-00922337203685.4775807": least,
		"000000000000000000922337203685.477580700"[:38]:  most,
		"-000000000000000000922337203685.477580700"[:39]: least,
	} {
		wantNumber(t, s, want)
	}
}

func TestNoNumbers(t *testing.T) {
	for _, s := range []string{
		"", "+", "-", ".", "+.", "-.", ".5", "-.5", "+.5", "5.", "-5.", "+5.", "0.", "1.12345678", "1.00000000", "0.000000000", "-0.12345670",
		"1..5", "1.5.", "1.5.5", ".1.5", "..", "1.2.", "--1", "++1", "+-1", "-+1", "1-", "1+", "1-2", "1+2", "1.-5", "1.+5", "-1-", "1.5-",
		" 1", "1 ", "1 2", "- 1", "1 .5", "1. 5", "\t1", "1\n", "1,5", "1_000", "1e3", "1E3", "1e", "0x10", "0b1", "0o7", "inf", "Inf", "NaN", "nan", "a", "1a", "a1",
		"\x001", "1\x00", "\xff", "1\xff", "1.\xff", "\u0661", "1.\u0665", "\uff11", "\u22121", "\u00bd", "\u00b2", "1\u00b2", "(1)", "'1", "1/2", "1:2",
		"922337203685.4775808", "+922337203685.4775808", "-922337203685.4775808", "-922337203685.4775809", "922337203685.4775809", "922337203685.478", "-922337203685.5",
		"922337203686", "-922337203686", "1000000000000", "9223372036854775807", "9223372036854775808", "-9223372036854775808", "18446744073709551616", "18446744073709551617",
		"1844674407370.9551616", "1844674407370.9551617", "-1844674407370.9551617", "99999999999999999999999999999999.1234567", "-9999999999999999999999999999999.1234567",
	} {
		wantNoNumber(t, s)
	}
}

// A number has forty bytes at most, whatever they are.
func TestNumberIsTooLong(t *testing.T) {
	for _, sign := range []string{"", "-", "+"} {
		for _, tail := range []string{"0", "7", "12.5", "0.0000001", "922337203685.4775807"} {
			bare := strings.Repeat("0", 40-len(sign)-len(tail)) + tail
			want, _ := wkt.Number(tail)
			if sign == "-" {
				want = -want
			}
			wantNumber(t, sign+bare[1:], want)
			wantNumber(t, sign+bare, want)
			wantNoNumber(t, sign+"0"+bare)
			wantNoNumber(t, sign+strings.Repeat("0", 100)+bare)
		}
	}
	wantNoNumber(t, strings.Repeat("1", 40))
	wantNoNumber(t, strings.Repeat("0", 41))
	wantNoNumber(t, strings.Repeat("0", 1<<16))
}

var plain = regexp.MustCompile(`\A[-+]?[0-9]+(\.[0-9]{1,7})?\z`)

// said is the ordinate that a text says, by the chapter's words.
func said(s string) (int, bool) {
	if len(s) > 40 || !plain.MatchString(s) {
		return 0, false
	}
	r, ok := new(big.Rat).SetString(s)
	if !ok {
		panic(s)
	}
	n := r.Mul(r, big.NewRat(whole, 1)).Num()
	if !r.IsInt() || !n.IsInt64() || n.Int64() == nowhere {
		return 0, false
	}
	return int(n.Int64()), true
}

// wantSaid holds Number to the model.
func wantSaid(t *testing.T, s string) {
	t.Helper()
	if n, ok := said(s); ok {
		wantNumber(t, s, n)
	} else {
		wantNoNumber(t, s)
	}
}

// All texts of few runes that numbers are made of, and one that they are not.
func TestShortNumbers(t *testing.T) {
	l := []string{""}
	for range 5 {
		var longer []string
		for _, s := range l {
			wantSaid(t, s)
			for _, c := range "09+-. a" {
				longer = append(longer, s+string(c))
			}
		}
		l = longer
	}
}

func TestThrownNumbers(t *testing.T) {
	for seed := range 20000 {
		d := thrown(seed)
		n := d.ordinate()
		if got := wkt.Ordinate(n); got != digits(n) {
			t.Errorf("Ordinate(%d): %q, want %q", n, got, digits(n))
		}
		wantNumber(t, digits(n), n)
		s := []byte(one(d, "", "+", "-", "0", "00000") + strings.TrimPrefix(digits(n), "-") + one(d, "", "0", "000", ".0", "."))
		wantSaid(t, string(s))
		s[d.under(len(s))] = one(d, []byte("0123456789+-. a")...)
		wantSaid(t, string(s))
		if t.Failed() {
			t.Fatalf("seed %d", seed)
		}
	}
}

// Around both ends each number is told, or is not.
func TestNumbersAtTheEnds(t *testing.T) {
	for i := range 2000 {
		n := new(big.Int).Add(new(big.Int).Lsh(big.NewInt(1), 63), big.NewInt(int64(i-1000)))
		s := n.String()
		s = s[:12] + "." + s[12:]
		wantSaid(t, s)
		wantSaid(t, "+"+s)
		wantSaid(t, "-"+s)
		wantSaid(t, "-000"+s)
	}
}
