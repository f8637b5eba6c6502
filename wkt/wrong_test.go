package wkt_test

import (
	"fmt"
	"strings"
	"testing"

	"hachure/api"
	"hachure/wkt"
)

// wantMarked asks for ErrBad where a text has ^, which is no part of it.
func wantMarked(t *testing.T, marked string) {
	t.Helper()
	ahead, behind, ok := strings.Cut(marked, "^")
	if !ok {
		t.Fatalf("%q has no mark", marked)
	}
	wantWrong(t, ahead+behind, len(ahead), api.ErrBad)
}

// wantMarkedWithin asks for it in collections, too.
func wantMarkedWithin(t *testing.T, marked string) {
	t.Helper()
	wantMarked(t, marked)
	wantMarked(t, "GEOMETRYCOLLECTION ("+marked+")")
	wantMarked(t, "geometrycollection(point(1 2),geometrycollection(multipoint(1 2),"+marked+"),line empty)")
	wantMarked(t, strings.Repeat("GEOMETRYCOLLECTION (", deepest-1)+marked+strings.Repeat(")", deepest-1))
}

func TestWrongAtTheTop(t *testing.T) {
	for _, s := range []string{
		"^", " ^", "\n\t ^", "^(", "^)", "^,", "  ^()", "^1", "^1 2", "^-", "^.", "^EMPTY", "^empty", "^(1 2)", "^POIN (1 2)", "^POINTS (1 2)", "^P", " ^X EMPTY", "^POINTEMPTY",
		"^POINTZ (1 2)", "POINT ^Z (1 2)", "POINT ^POINT (1 2)", "POINT ^,", "POINT ^)", "POINT ^1 2", "POINT ^1 2)", "^, POINT (1 2)", "^SRID",
		"POINT (1 2)^)", "POINT (1 2)^,", "POINT (1 2) ^(", "POINT (1 2) ^POINT (1 2)", "POINT (1 2)^POINT", "POINT (1 2)^3", "POINT (1 2) ^EMPTY", "POINT (1 2)^, POINT (1 2)",
		"POINT EMPTY ^EMPTY", "POINT EMPTY ^(1 2)", "POINT EMPTY ^)", "POINT EMPTY^1", "POINT EMPTY^,", "LINESTRING EMPTY ^EMPTY", "MULTIPOINT EMPTY ^(1 2)", "GEOMETRYCOLLECTION EMPTY ^()",
		"^LINE (1 2, 3 4)", "^POLYGONS EMPTY", "^MULTI POINT EMPTY",
	} {
		wantMarked(t, s)
	}
}

// wrongs are texts of each kind that go wrong somewhere, ahead of their end.
func wrongs() []string {
	return []string{
		"POINT (^)", "POINT (^,", "POINT (^EMPTY)", "POINT (^(", "POINT (^(1 2))", "POINT (1^)", "POINT (1 ^, 2)", "POINT (1 ^(", "POINT (1 ^x)", "POINT (1 2^, 3 4)",
		"POINT (1 2 ^3)", "POINT (1 2^(", "POINT (1 2^EMPTY)", "POINT (1 2^,)", "POINT (^x 2)", "POINT (^POINT (1 2))", "POINT ^[1 2]", "POINT (^--1 2)", "POINT (1 ^2.)", "POINT (^.5 2)",
		"POINT (1 ^1.12345678)", "POINT (^1..2 3)", "POINT (^922337203685.4775808 0)", "POINT (0 ^-922337203685.4775808)", "POINT (0 ^99999999999999999999)", "POINT (^- 1)", "POINT (^+ 1)", "POINT (1 ^.)",
		"POINT (^1-2)", "POINT (^1.2.3)", "POINT (1^e5 2)", "POINT (0^x10 2)", "POINT (^nan nan)", "POINT (^" + strings.Repeat("0", 41) + " 1)",
		"LINESTRING (^)", "LINESTRING (^EMPTY)", "LINESTRING (^(1 2), 3 4)", "LINESTRING (^(1 2, 3 4))", "LINESTRING (1 2, ^(3 4))", "LINESTRING (1 2, ^EMPTY)", "LINESTRING (1 2,^)", "LINESTRING (1 2,^, 3 4)",
		"LINESTRING (^, 1 2)", "LINESTRING (1^, 2 3)", "LINESTRING (1 2 ^3, 4 5)", "LINESTRING (1 2, 3^)", "LINESTRING (1 2, 3 4^x)", "LINESTRING ^1 2, 3 4", "LINESTRING ^,",
		"POLYGON (^)", "POLYGON (^EMPTY)", "POLYGON (^empty)", "POLYGON (^1 2, 3 4)", "POLYGON ((^))", "POLYGON ((^EMPTY))", "POLYGON ((^(1 2)))", "POLYGON ((0 0, 1 0, 0 1, 0 0), ^EMPTY)",
		"POLYGON ((0 0, 1 0, 0 1, 0 0),^)", "POLYGON ((0 0, 1 0, 0 1, 0 0)^(0 0, 1 0, 0 1, 0 0))", "POLYGON ((0 0, 1 0, 0 1, 0 0), ^1 2)", "POLYGON (^POLYGON EMPTY)", "POLYGON (^LINESTRING (1 2, 3 4))",
		"POLYGON ((0 0, 1 0, 0 1, 0 0,^))", "POLYGON ((0 0 ^0, 1 0, 0 1, 0 0))", "POLYGON (^, (0 0, 1 0, 0 1, 0 0))", "POLYGON ((0 0, 1 0, 0 1, 0 0),^, (0 0, 1 0, 0 1, 0 0))",
		"MULTIPOINT (^)", "MULTIPOINT (^,)", "MULTIPOINT (1^)", "MULTIPOINT (1 2,^)", "MULTIPOINT (1 2 ^3 4)", "MULTIPOINT (1 2, (3^))", "MULTIPOINT ((^))", "MULTIPOINT ((^EMPTY))", "MULTIPOINT ((^(1 2)))",
		"MULTIPOINT ((1 2^, 3 4))", "MULTIPOINT ((1 2)^(3 4))", "MULTIPOINT ((1 2) ^3 4)", "MULTIPOINT (1 2^(3 4))", "MULTIPOINT (1 2^EMPTY)", "MULTIPOINT (EMPTY ^EMPTY)", "MULTIPOINT (EMPTY ^1 2)", "MULTIPOINT (EMPTY ^(1 2))",
		"MULTIPOINT (^POINT (1 2))", "MULTIPOINT (^POINT EMPTY)", "MULTIPOINT (1^, 2)", "MULTIPOINT (^x)", "MULTIPOINT (^- 1)", "MULTIPOINT ((1 2), 3 ^-)", "MULTIPOINT ^1 2",
		"MULTILINESTRING (^)", "MULTILINESTRING (^1 2, 3 4)", "MULTILINESTRING ((^))", "MULTILINESTRING ((^EMPTY))", "MULTILINESTRING ((^(1 2, 3 4)))", "MULTILINESTRING ((1 2, 3 4),^)", "MULTILINESTRING (EMPTY ^EMPTY)",
		"MULTILINESTRING (^LINESTRING EMPTY)", "MULTILINESTRING ((1 2, 3 4),^,", "MULTILINESTRING ((1 2, 3 4)^EMPTY)", "MULTILINESTRING ((1 2, ^EMPTY))",
		"MULTIPOLYGON (^)", "MULTIPOLYGON (^1 2)", "MULTIPOLYGON ((^))", "MULTIPOLYGON ((^EMPTY))", "MULTIPOLYGON ((^1 2, 3 4))", "MULTIPOLYGON (((^)))", "MULTIPOLYGON (((^EMPTY)))", "MULTIPOLYGON (((1 2)),^)",
		"MULTIPOLYGON (EMPTY,^)", "MULTIPOLYGON (^POLYGON EMPTY)", "MULTIPOLYGON ((^POLYGON EMPTY))", "MULTIPOLYGON (((0 0, 1 0, 0 1, 0 0), ^EMPTY))", "MULTIPOLYGON (((0 0, 1 0, 0 1, 0 0))^((0 0, 1 0, 0 1, 0 0)))",
		"GEOMETRYCOLLECTION (^)", "GEOMETRYCOLLECTION (^EMPTY)", "GEOMETRYCOLLECTION (^1 2)", "GEOMETRYCOLLECTION (^(1 2))", "GEOMETRYCOLLECTION (^RING ((0 0, 1 0, 0 1, 0 0)))", "GEOMETRYCOLLECTION (POINT EMPTY,^)",
		"GEOMETRYCOLLECTION (POINT EMPTY ^POINT EMPTY)", "GEOMETRYCOLLECTION (POINT EMPTY, ^EMPTY)", "GEOMETRYCOLLECTION (POINT EMPTY,^, POINT EMPTY)", "GEOMETRYCOLLECTION (^, POINT EMPTY)", "GEOMETRYCOLLECTION (^POINTEMPTY)",
		"GEOMETRYCOLLECTION (POINT ^)", "GEOMETRYCOLLECTION (POINT (1 2)^(", "GEOMETRYCOLLECTION (^(", "GEOMETRYCOLLECTION ^POINT (1 2)", "GEOMETRYCOLLECTION (^GEOMETRY EMPTY)",
	}
}

func TestWrong(t *testing.T) {
	for _, s := range wrongs() {
		wantMarkedWithin(t, s)
	}
}

// A text that ends too early goes wrong at its end, blanks and all; but what is cut in two may be no token that is told.
func TestTooShort(t *testing.T) {
	for _, s := range []string{
		"POINT", "POINT (", "POINT (1", "POINT (1 2", "LINESTRING", "LINESTRING (", "LINESTRING (1 2,", "LINESTRING (1 2, 3 4", "POLYGON", "POLYGON (", "POLYGON ((", "POLYGON ((1 2", "POLYGON ((1 2,",
		"POLYGON ((0 0, 1 0, 0 1, 0 0)", "POLYGON ((0 0, 1 0, 0 1, 0 0),", "MULTIPOINT", "MULTIPOINT (", "MULTIPOINT (EMPTY", "MULTIPOINT (EMPTY,", "MULTIPOINT (1", "MULTIPOINT (1 2", "MULTIPOINT (1 2,", "MULTIPOINT ((", "MULTIPOINT ((1 2", "MULTIPOINT ((1 2)",
		"MULTILINESTRING", "MULTILINESTRING (", "MULTILINESTRING ((", "MULTILINESTRING (EMPTY", "MULTILINESTRING ((1 2, 3 4", "MULTILINESTRING ((1 2, 3 4)", "MULTILINESTRING ((1 2, 3 4),",
		"MULTIPOLYGON", "MULTIPOLYGON (", "MULTIPOLYGON ((", "MULTIPOLYGON (((", "MULTIPOLYGON (((1 2, 3 4)", "MULTIPOLYGON (((1 2, 3 4))", "MULTIPOLYGON (EMPTY,", "GEOMETRYCOLLECTION", "GEOMETRYCOLLECTION (", "GEOMETRYCOLLECTION (POINT",
		"GEOMETRYCOLLECTION (POINT EMPTY", "GEOMETRYCOLLECTION (POINT EMPTY,", "GEOMETRYCOLLECTION (GEOMETRYCOLLECTION EMPTY", "GEOMETRYCOLLECTION (GEOMETRYCOLLECTION (POINT EMPTY)",
	} {
		for _, blank := range []string{"", " ", "\n", "  \t\n"} {
			wantMarked(t, s+blank+"^")
			wantMarked(t, blank+s+"^")
			wantMarked(t, "GEOMETRYCOLLECTION (POINT EMPTY, "+s+blank+"^")
		}
	}
	wantMarked(t, "^POIN")
	wantMarked(t, "POINT ^EMPT")
	wantMarked(t, "POINT (^-")
	wantMarked(t, "POINT (1 ^2.")
	wantMarked(t, "MULTIPOINT (1 ^+")
	wantMarked(t, "MULTIPOINT (^E")
	wantMarked(t, "GEOMETRYCOLLECTION (^P")
}

// Texts of each kind are cut behind each token: they end too early.
func TestTooShortAtEachPlace(t *testing.T) {
	for _, s := range all() {
		text := spelt(s)
		pieces, begins, _ := wkt.Tokens(text)
		for i := range len(pieces) - 1 {
			n := begins[i] + len(pieces[i])
			wantWrong(t, text[:n], n, api.ErrBad)
			wantWrong(t, text[:begins[i+1]]+" ", begins[i+1]+1, api.ErrBad)
		}
		wantWrong(t, "", 0, api.ErrBad)
	}
}

// What goes on behind its end is wrong there, whatever it is.
func TestTooMuch(t *testing.T) {
	for _, s := range all() {
		for _, more := range []string{")", "(", ",", "EMPTY", "POINT", "1", "-", "x", "\xff", "\u00e9", ";"} {
			for _, blank := range []string{" ", "\n\t "} {
				wantMarked(t, spelt(s)+blank+"^"+more)
				wantMarked(t, spelt(s)+blank+"^"+more+" POINT (1 2)")
			}
		}
	}
}

// A rune that is none is wrong where it is, if all ahead of it is right so far; else what is wrong ahead of it is told.
func TestOtherRunes(t *testing.T) {
	for _, r := range []string{"\u00e9", "\u4e2d", "\U0001f600", "\xff", "\xc3", "\ufffd", "\r", "\x00", ";", "[", "_", "\u00a0", "\u017f", "\uff11"} {
		for _, form := range []string{
			"^%s", " ^%s", "^%sPOINT (1 2)", "POINT^%s", "POINT^%s (1 2)", "POINT ^%s(1 2)", "POINT ^%s EMPTY", "POINT (^%s1 2)", "POINT (1^%s 2)", "POINT (1^%s2)", "POINT (1 ^%s 2)", "POINT (1 2^%s)", "POINT (1 2 ^%s)", "POINT (1 2)^%s", "POINT (1 2)  ^%s x",
			"POINT EMPTY^%s", "POINT EMPTY ^%s", "LINESTRING (1 2^%s, 3 4)", "LINESTRING (1 2,^%s 3 4)", "POLYGON (^%s(0 0, 1 0, 0 1, 0 0))", "POLYGON ((0 0, 1 0, 0 1, 0 0)^%s)", "MULTIPOINT (^%s1 2)", "MULTIPOINT (1 2,^%s (3 4))",
			"GEOMETRYCOLLECTION (^%s)", "GEOMETRYCOLLECTION (POINT EMPTY^%s)", "GEOMETRYCOLLECTION (POINT^%s EMPTY)",
			// Behind it all is wrong, and is not looked at.
			"POINT (1 ^%s ) ) (", "POINT ^%s %%s", "^%s ^", "LINESTRING (1 2)^%s",
			// Ahead of it something is wrong.
			"^POIN%s", "^POIN %s", "^PO%sINT (1 2)", "^(%s", "^1%s", "POINT ^EMPT%sY", "POINT ^)%s", "POINT (1 ^) %s", "POINT (^1.%s5 2)", "POINT (1 ^-%s2)", "POINT (1 2)^)%s", "POINT (1 2) ^x %s", "POLYGON (^EMPTY%s)", "POINT (1 2 ^3%s)",
			"GEOMETRYCOLLECTION (^EMPTY %s)", "LINESTRING (1 2,^,%s)", "^EMPTY%s",
		} {
			wantMarked(t, strings.ReplaceAll(form, "%s", r))
		}
		long := strings.Repeat(" ", mostBytes-len("POINT EMPTY")-len(r))
		wantMarked(t, "POINT EMPTY"+long+"^"+r)
		wantWrong(t, "POINT EMPTY"+long+" "+r, 0, api.ErrLong)
	}
}

// A letter is one of those that names have: others are not as these, though they have them as their capitals.
func TestOtherLetters(t *testing.T) {
	wantMarked(t, "^PO\u0131NT EMPTY")
	wantMarked(t, "^LINE\u017fTRING EMPTY")
	wantMarked(t, "POINT EMPTY^\u0130")
	wantMarked(t, "POINT^\u0301 EMPTY")
}

// depths are shapes that lie as deep as they are, with the mark where they go wrong at depth 18.
func depths() map[string]api.Shape {
	return map[string]api.Shape{
		"POINT ^(1 2)":                    point(at(whole, 2*whole)),
		"POINT ^EMPTY":                    point(),
		"LINESTRING ^(1 2, 3 4)":          line(at(whole, 2*whole), at(3*whole, 4*whole)),
		"LINESTRING ^EMPTY":               line(),
		"POLYGON ^((0 0, 0 0, 0 0, 0 0))": polygon(api.Shape{Kind: aRing, XY: many(4, at(0, 0))}),
		"POLYGON ^EMPTY":                  polygon(),
		"MULTIPOINT ^EMPTY":               of(aMultiPoint),
		"MULTILINESTRING ^EMPTY":          of(aMultiLine),
		"MULTIPOLYGON ^EMPTY":             of(aMultiPolygon),
		"GEOMETRYCOLLECTION ^EMPTY":       collection(),
	}
}

// A shape at depth 17 is read, and is too deep for Check; one at depth 18 goes wrong behind its name.
func TestDepth(t *testing.T) {
	for marked, s := range depths() {
		plain := strings.Replace(marked, "^", "", 1)
		for n := range deepest {
			wantShape(t, in(n, plain), under(n, s))
		}
		wantWrong(t, in(deepest, plain), 0, api.ErrDeep)
		for n := deepest + 1; n < deepest+5; n++ {
			// What is at depth 18 is the shape, or the collection around it.
			if n == deepest+1 {
				wantMarked(t, in(n, marked))
			} else {
				wantMarked(t, strings.Repeat("GEOMETRYCOLLECTION (", deepest+1)+"GEOMETRYCOLLECTION ^("+in(n-deepest-2, plain))
			}
		}
	}
	top := strings.Repeat("GEOMETRYCOLLECTION (", deepest+1)
	for _, s := range []string{"POINT^", "POINT  ^", "POINT^,", "POINT ^POINT", "POINT^1", "POINT ^\u00e9", "POINT^)", "GEOMETRYCOLLECTION ^(", "GEOMETRYCOLLECTION^", "MULTIPOINT ^(1 2)", "^EMPTY", "^(", "^)", "^1", "^POIN", "^", "  ^", "^\xff"} {
		wantMarked(t, top+s)
	}
	wantMarked(t, strings.Repeat("GEOMETRYCOLLECTION (", 900)[:20*(deepest+1)]+"GEOMETRYCOLLECTION ^("+strings.Repeat("GEOMETRYCOLLECTION (", 900))
}

// Parts without names lie one deeper, too, and go wrong where they begin.
func TestDepthOfPartsWithoutNames(t *testing.T) {
	for name, l := range map[string][]string{
		"MULTIPOINT":      {"1 2", "(1 2)", "EMPTY", "1", ")", "x"},
		"MULTILINESTRING": {"(1 2, 3 4)", "EMPTY", "(", ")", "1 2"},
		"MULTIPOLYGON":    {"((0 0, 0 0, 0 0, 0 0))", "EMPTY", "((", ")", "\u00e9"},
	} {
		for i, s := range l {
			if i < 2 {
				text := name + " (" + s + ")"
				part, _, _ := wkt.Parse(text)
				wantShape(t, in(deepest-2, text), under(deepest-2, part))
				wantWrong(t, in(deepest-1, text), 0, api.ErrDeep)
			}
			wantMarked(t, strings.Repeat("GEOMETRYCOLLECTION (", deepest)+name+" (^"+s+")")
			wantMarked(t, strings.Repeat("GEOMETRYCOLLECTION (", deepest)+name+" ( \n^"+s)
		}
		wantWrong(t, in(deepest, name+" EMPTY"), 0, api.ErrDeep)
		wantMarked(t, strings.Repeat("GEOMETRYCOLLECTION (", deepest+1)+name+" ^(1 2)")
		wantMarked(t, strings.Repeat("GEOMETRYCOLLECTION (", deepest)+name+" (^")
	}
}

// Of the whole, Check's error, and no place.
func TestErrorsOfCheck(t *testing.T) {
	for _, s := range checked() {
		wantWrong(t, s.text, 0, s.err)
		// What is not as told comes ahead of it.
		wantMarked(t, s.text+" ^)")
		wantMarked(t, s.text+" ^\u00e9")
		wantMarked(t, s.text[:len(s.text)-1]+"^")
		if s.err != api.ErrDeep {
			wantWrong(t, in(1, s.text), 0, s.err)
			wantMarked(t, "GEOMETRYCOLLECTION ("+s.text+", ^EMPTY)")
		}
	}
	// The first one, of the whole.
	few, much := "LINESTRING (1 2)", "LINESTRING ("+strings.Repeat("0 0,", mostPoints)+"0 0)"
	wantWrong(t, "GEOMETRYCOLLECTION ("+few+","+much+")", 0, api.ErrLong)
	wantWrong(t, "GEOMETRYCOLLECTION ("+few+","+in(deepest-1, "POINT EMPTY")+")", 0, api.ErrDeep)
	wantWrong(t, "GEOMETRYCOLLECTION ("+much+","+in(deepest-1, "POINT EMPTY")+")", 0, api.ErrDeep)
	// An ordinate that is nowhere is no number, and so is not as told.
	wantMarked(t, "POINT (^-922337203685.4775808 0)")
	wantMarked(t, "LINESTRING (1 2, 3 ^-922337203685.4775808)")
}

// check is a text that says a shape that may not be.
type check struct {
	text string
	err  api.Errno
}

func checked() []check {
	return []check{
		{"LINESTRING (1 2)", api.ErrBad}, {"POLYGON ((1 2))", api.ErrBad}, {"POLYGON ((1 2, 3 4))", api.ErrBad}, {"POLYGON ((0 0, 1 0, 0 0))", api.ErrBad},
		{"POLYGON ((0 0, 1 0, 0 1, 0 0.0000001))", api.ErrBad}, {"POLYGON ((0 0, 1 0, 0 1, 0 0), (1 1, 2 2, 1 1))", api.ErrBad}, {"MULTILINESTRING ((1 2, 3 4), (5 6))", api.ErrBad},
		{"MULTIPOLYGON (EMPTY, ((0 0, 1 0, 0 1)))", api.ErrBad}, {"GEOMETRYCOLLECTION (POINT (1 2), LINESTRING (3 4))", api.ErrBad},
		{"LINESTRING (" + strings.Repeat("0 0,", mostPoints) + "0 0)", api.ErrLong}, {"MULTIPOINT (" + strings.Repeat("0 0,", mostParts) + "0 0)", api.ErrLong},
		{"MULTILINESTRING (" + strings.Repeat("EMPTY,", mostParts) + "EMPTY)", api.ErrLong}, {"POLYGON (" + strings.Repeat("(0 0),", mostParts) + "(0 0))", api.ErrLong},
		{"MULTIPOLYGON (" + strings.Repeat("((0 0)),", mostParts/2) + "EMPTY)", api.ErrLong},
		{in(deepest, "POINT (1 2)"), api.ErrDeep}, {in(deepest, "LINESTRING (1 2)"), api.ErrDeep}, {in(deepest, "MULTIPOINT EMPTY"), api.ErrDeep}, {in(deepest-1, "MULTIPOINT (1 2)"), api.ErrDeep},
	}
}

// What is too long is told first, whatever is in it.
func TestTooLong(t *testing.T) {
	for _, s := range []string{" ", "(", "a", "1", "\u00e9", "\xff", "POINT (1 2)", "POINT EMPTY ", "GEOMETRYCOLLECTION (", "LINESTRING (1 2)"} {
		n := (mostBytes + len(s)) / len(s)
		wantWrong(t, strings.Repeat(s, n), 0, api.ErrLong)
		wantWrong(t, s+strings.Repeat(" ", mostBytes+1-len(s)), 0, api.ErrLong)
		wantWrong(t, strings.Repeat(s, 10*n), 0, api.ErrLong)
	}
	// Texts that are just as long as they may be, and wrong.
	wantMarked(t, strings.Repeat(" ", mostBytes)+"^")
	wantMarked(t, "^"+strings.Repeat("(", mostBytes))
	wantMarked(t, "^"+strings.Repeat("a", mostBytes))
	wantMarked(t, "^"+strings.Repeat("1", mostBytes))
	wantMarked(t, "POINT (^"+strings.Repeat("1", mostBytes-7))
	wantMarked(t, strings.Repeat(" ", mostBytes-1)+"^\xff")
	wantMarked(t, "POINT EMPTY"+strings.Repeat(" ", mostBytes-12)+"^)")
	wantMarked(t, "MULTIPOINT (EMPTY"+strings.Repeat(",EMPTY", 3000)+"^")
}

// A comma or a bracket too many, or too few, at each place where one is.
func TestMarks(t *testing.T) {
	for _, s := range all() {
		text := spelt(s)
		for i, c := range text {
			if !strings.ContainsRune("(),", c) {
				continue
			}
			for _, other := range []string{"", "(", ")", ",", "((", "))", ",,", "(,", ",)", "EMPTY", " 1 "} {
				if other != string(c) {
					wantModel(t, text[:i]+other+text[i+1:])
				}
			}
		}
		if t.Failed() {
			t.Fatal(fmt.Sprint("of ", text))
		}
	}
}
