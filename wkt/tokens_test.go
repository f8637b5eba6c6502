package wkt_test

import (
	"fmt"
	"regexp"
	"strings"
	"testing"
	"unicode/utf8"

	"hachure/wkt"
)

func TestTokens(t *testing.T) {
	for _, c := range []struct {
		text   string
		pieces []string
		begins []int
	}{
		{"", nil, nil},
		{" ", nil, nil},
		{" \t\n \n\n\t\t  ", nil, nil},
		{"a", []string{"a"}, []int{0}},
		{"Point", []string{"Point"}, []int{0}},
		{" \tabcXYZ\n", []string{"abcXYZ"}, []int{2}},
		{"a b\tc\nd", []string{"a", "b", "c", "d"}, []int{0, 2, 4, 6}},
		{"1", []string{"1"}, []int{0}},
		{"-1.5 +2", []string{"-1.5", "+2"}, []int{0, 5}},
		{"1-2", []string{"1-2"}, []int{0}},
		{"+-..-+", []string{"+-..-+"}, []int{0}},
		{". . -", []string{".", ".", "-"}, []int{0, 2, 4}},
		{"1.2.3,4", []string{"1.2.3", ",", "4"}, []int{0, 5, 6}},
		{"a1b22-c", []string{"a", "1", "b", "22-", "c"}, []int{0, 1, 2, 3, 6}},
		{"1e5", []string{"1", "e", "5"}, []int{0, 1, 2}},
		{"()", []string{"(", ")"}, []int{0, 1}},
		{"(((,,,)))", []string{"(", "(", "(", ",", ",", ",", ")", ")", ")"}, []int{0, 1, 2, 3, 4, 5, 6, 7, 8}},
		{") ( ,", []string{")", "(", ","}, []int{0, 2, 4}},
		{"POINT(1 2)", []string{"POINT", "(", "1", "2", ")"}, []int{0, 5, 6, 8, 9}},
		{"  point\n(\t1.5   -2 )\n", []string{"point", "(", "1.5", "-2", ")"}, []int{2, 8, 10, 16, 19}},
		{"a(b)c,d", []string{"a", "(", "b", ")", "c", ",", "d"}, []int{0, 1, 2, 3, 4, 5, 6}},
		{"1(2)3,4", []string{"1", "(", "2", ")", "3", ",", "4"}, []int{0, 1, 2, 3, 4, 5, 6}},
		{"azAZ09", []string{"azAZ", "09"}, []int{0, 4}},
		{strings.Repeat("0", 50), []string{strings.Repeat("0", 50)}, []int{0}},
	} {
		wantTokens(t, c.text, c.pieces, c.begins)
	}
}

// Any other rune, wherever it is, and there are no tokens.
func TestTokensOfOtherRunes(t *testing.T) {
	for _, c := range []string{
		"\x00", "\r", "\v", "\f", "\x1f", "!", "\"", "#", "$", "%", "&", "'", "*", "/", ":", ";", "<", "=", ">", "?", "@", "[", "\\", "]", "^", "_", "`", "{", "|", "}", "~", "\x7f",
		"\u0080", "\u0085", "\u00a0", "\u00b2", "\u00df", "\u00e9", "\u0130", "\u0131", "\u017f", "\u0391", "\u0416", "\u0663", "\u2003", "\u2028", "\u212a", "\u2212", "\u3000", "\u4e2d", "\uff08", "\uff09", "\uff0c", "\uff0e", "\uff13", "\uff21", "\ufeff", "\ufffd", "\U0001f600", "\U0010ffff",
		"\x80", "\xbf", "\xc0", "\xff", "\xc3", "\xe2\x82", "\xed\xa0\x80", "\xf4\x90\x80\x80", "\xc0\xa8", "\xe2\x28\xa1",
	} {
		for _, form := range []string{"%s", "a%s", "%sa", "1%s", "%s1", "(%s", "%s)", " %s", "%s ", "POINT (1 2)%s", "%sPOINT (1 2)", "PO%sINT (1 2)", "POINT (1%s2)", "POINT (1 %s2)"} {
			wantNoTokens(t, fmt.Sprintf(form, c))
		}
	}
}

// Each rune of one byte is a word's, a number's, a token by itself, says nothing, or may not be.
func TestTokensOfEachRune(t *testing.T) {
	for r := range rune(0x3100) {
		s := string(r)
		switch {
		case strings.ContainsRune("abcdefghijklmnopqrstuvwxyzABCDEFGHIJKLMNOPQRSTUVWXYZ", r):
			wantTokens(t, s+s, []string{s + s}, []int{0})
			wantTokens(t, "1"+s+"A1", []string{"1", s + "A", "1"}, []int{0, 1, 3})
		case strings.ContainsRune("0123456789+-.", r):
			wantTokens(t, s+s, []string{s + s}, []int{0})
			wantTokens(t, "A"+s+"1A", []string{"A", s + "1", "A"}, []int{0, 1, 3})
		case strings.ContainsRune("(),", r):
			wantTokens(t, s+s, []string{s, s}, []int{0, 1})
			wantTokens(t, "A"+s+"1", []string{"A", s, "1"}, []int{0, 1, 2})
		case strings.ContainsRune(" \t\n", r):
			wantTokens(t, s+s, nil, nil)
			wantTokens(t, "A"+s+"A"+s+s+"1", []string{"A", "A", "1"}, []int{0, 2, 5})
		default:
			wantNoTokens(t, s)
			wantNoTokens(t, "A "+s)
		}
	}
}

// 20000 bytes are not too many, whatever they are.
func TestTokensOfMuch(t *testing.T) {
	n := mostBytes
	wantTokens(t, strings.Repeat(" ", n), nil, nil)
	wantTokens(t, strings.Repeat("a", n), []string{strings.Repeat("a", n)}, []int{0})
	wantTokens(t, strings.Repeat("5", n), []string{strings.Repeat("5", n)}, []int{0})
	wantTokens(t, strings.Repeat("\n", n-1)+",", []string{","}, []int{n - 1})
	var begins []int
	for i := range n {
		begins = append(begins, i)
	}
	wantTokens(t, strings.Repeat("(", n), many(n, "("), begins)
	pairs := strings.Repeat("a1", n/2)
	wantTokens(t, pairs, strings.Split(pairs, ""), begins)
	for _, s := range []string{" ", "a", "5", "(", "\n", "é", "\xff"} {
		wantNoTokens(t, strings.Repeat(s, n+1))
		wantNoTokens(t, strings.Repeat(s, 3*n))
	}
	wantNoTokens(t, strings.Repeat(" ", n-2)+"é")
	wantNoTokens(t, "a"+strings.Repeat(" ", n))
}

var (
	sound = regexp.MustCompile(`\A[A-Za-z0-9+\-.(), \t\n]*\z`)
	piece = regexp.MustCompile(`[A-Za-z]+|[0-9+\-.]+|[(),]`)
)

// matched is the tokens of a text, by the chapter's words.
func matched(s string) ([]string, []int, bool) {
	if len(s) > mostBytes || !utf8.ValidString(s) || !sound.MatchString(s) {
		return nil, nil, false
	}
	var pieces []string
	var begins []int
	for _, l := range piece.FindAllStringIndex(s, -1) {
		pieces, begins = append(pieces, s[l[0]:l[1]]), append(begins, l[0])
	}
	return pieces, begins, true
}

// wantMatched holds Tokens to the model.
func wantMatched(t *testing.T, s string) {
	t.Helper()
	if pieces, begins, ok := matched(s); ok {
		wantTokens(t, s, pieces, begins)
	} else {
		wantNoTokens(t, s)
	}
}

// All texts of few runes.
func TestShortTexts(t *testing.T) {
	l := []string{""}
	for range 5 {
		var longer []string
		for _, s := range l {
			wantMatched(t, s)
			for _, c := range []string{"a", "Z", "1", "-", "(", ",", " ", "é"} {
				longer = append(longer, s+c)
			}
		}
		l = longer
	}
}

// Two lists that are told, and those of another call, share nothing.
func TestTokensAreNew(t *testing.T) {
	p, b, _ := wkt.Tokens("a 1")
	p2, b2, _ := wkt.Tokens("a 1")
	p[0], b[0] = "changed", 99
	_, _ = append(p, "x"), append(b, 7)
	if p2[0] != "a" || b2[0] != 0 {
		t.Errorf("%v, %v", p2, b2)
	}
	wantTokens(t, "a 1", []string{"a", "1"}, []int{0, 2})
}
