package wkt_test

import (
	"strings"
	"testing"

	"hachure/api"
	"hachure/wkt"
)

// P17.3: letters of either size, and blanks of each kind, or none where none is needed.
func TestParse(t *testing.T) {
	u := whole
	corners := api.Shape{Kind: aRing, XY: []api.Point{at(0, 0), at(u, 0), at(0, u), at(0, 0)}}
	for s, want := range map[string]api.Shape{
		"POINT (1.5 -2)":                   point(at(15000000, -20000000)),
		"point (1.5 -2)":                   point(at(15000000, -20000000)),
		"PoInT(1.5 -2)":                    point(at(15000000, -20000000)),
		"\n\t POINT\t(\n1.5\n\t-2\n)\n \t": point(at(15000000, -20000000)),
		"POINT(+1.50 -2.0000000)":          point(at(15000000, -20000000)),
		"POINT (-0 +0)":                    point(at(0, 0)),
		"POINT(922337203685.4775807 -922337203685.4775807)": point(at(most, least)),
		"point empty":                point(),
		"Point Empty":                point(),
		"POINT\nEMPTY\n":             point(),
		"linestring(1 2,3 4)":        line(at(u, 2*u), at(3*u, 4*u)),
		"LineString\t( 1 2 , 3 4 )":  line(at(u, 2*u), at(3*u, 4*u)),
		"LINESTRING empty":           line(),
		"polygon((0 0,1 0,0 1,0 0))": polygon(corners),
		"POLYGON ( ( 0 0 , 1 0 , 0 1 , 0 0 ) , ( 0 0 , 1 0 , 0 1 , 0 0 ) )": polygon(corners, corners),
		"polygon EMPTY":                           polygon(),
		"MULTIPOINT (1 2)":                        of(aMultiPoint, point(at(u, 2*u))),
		"MULTIPOINT (1 2, 3 4)":                   of(aMultiPoint, point(at(u, 2*u)), point(at(3*u, 4*u))),
		"multipoint(1 2,(3 4),empty,5 6,EMPTY)":   of(aMultiPoint, point(at(u, 2*u)), point(at(3*u, 4*u)), point(), point(at(5*u, 6*u)), point()),
		"multipoint (1 2, (-0.5 3))":              of(aMultiPoint, point(at(u, 2*u)), point(at(-u/2, 3*u))),
		"MULTIPOINT((1 2),3 4)":                   of(aMultiPoint, point(at(u, 2*u)), point(at(3*u, 4*u))),
		"MULTIPOINT((1 2),(3 4))":                 of(aMultiPoint, point(at(u, 2*u)), point(at(3*u, 4*u))),
		"MULTIPOINT (EMPTY, 1 2)":                 of(aMultiPoint, point(), point(at(u, 2*u))),
		"multipoint empty":                        of(aMultiPoint),
		"multilinestring((1 2,3 4),empty)":        of(aMultiLine, line(at(u, 2*u), at(3*u, 4*u)), line()),
		"multilinestring empty":                   of(aMultiLine),
		"multipolygon(empty,((0 0,1 0,0 1,0 0)))": of(aMultiPolygon, polygon(), polygon(corners)),
		"multipolygon empty":                      of(aMultiPolygon),
		"geometrycollection(point(1 2))":          collection(point(at(u, 2*u))),
		"geometrycollection(point empty,geometrycollection empty,geometrycollection(multipoint(1 2)))": collection(point(), collection(), collection(of(aMultiPoint, point(at(u, 2*u))))),
		"GEOMETRYCOLLECTION empty": collection(),
	} {
		wantShape(t, s, want)
	}
}

// Between tokens may be any blanks; between two numbers, or two words, must be one.
func TestBlanks(t *testing.T) {
	for _, s := range all() {
		l, _, _ := wkt.Tokens(spelt(s))
		for _, blank := range []string{" ", "\n", "\t", " \t\n\n\t "} {
			wantShape(t, blank+strings.Join(l, blank)+blank, s)
		}
		tight := spelt(s)
		for _, mark := range []string{"(", ")", ","} {
			tight = strings.ReplaceAll(strings.ReplaceAll(tight, " "+mark, mark), mark+" ", mark)
		}
		wantShape(t, tight, s)
		wantShape(t, strings.ToLower(tight), s)
	}
	wantWrong(t, "POINTEMPTY", 0, api.ErrBad)
	wantWrong(t, "POINT (1-2)", 7, api.ErrBad)
	wantWrong(t, "POINT (1+2)", 7, api.ErrBad)
	// Words and numbers need nothing between, but no shape has one behind the other.
	wantWrong(t, "POINT1", 5, api.ErrBad)
	wantWrong(t, "POINT(1 2EMPTY", 9, api.ErrBad)
	wantWrong(t, "1POINT(1 2)", 0, api.ErrBad)
	wantWrong(t, "POINT (1e5 2)", 8, api.ErrBad)
	wantWrong(t, "MULTIPOINT (EMPTY1 2)", 17, api.ErrBad)
}

// Each name, in letters of all sizes.
func TestNames(t *testing.T) {
	for kind, name := range names() {
		if kind == aRing {
			continue
		}
		for i := range len(name) {
			mixed := strings.ToLower(name[:i]) + name[i:]
			wantShape(t, mixed+" EMPTY", of(kind))
			wantShape(t, "GEOMETRYCOLLECTION("+mixed+" empty)", collection(of(kind)))
			// One letter more, or less, or another.
			wantWrong(t, name[:i]+name[i+1:]+" EMPTY", 0, api.ErrBad)
			wantWrong(t, name[:i]+"Q"+name[i:]+" EMPTY", 0, api.ErrBad)
			wantWrong(t, name[:i]+"Q"+name[i+1:]+" EMPTY", 0, api.ErrBad)
		}
		wantWrong(t, name+"S EMPTY", 0, api.ErrBad)
	}
	for _, name := range []string{"EMPTY", "RING", "LINE", "LINEARRING", "MULTILINE", "COLLECTION", "GEOMETRY", "ANY", "A", "ok"} {
		wantWrong(t, name+" EMPTY", 0, api.ErrBad)
		wantWrong(t, " "+name+" (1 2)", 1, api.ErrBad)
		wantWrong(t, "GEOMETRYCOLLECTION (POINT EMPTY, "+name+" EMPTY)", 33, api.ErrBad)
	}
}

// P17.4: there and back.
func TestThereAndBack(t *testing.T) {
	for _, s := range all() {
		wantShape(t, wkt.Print(s), s)
	}
	for seed := range 5000 {
		d := thrown(seed)
		s := d.shape(1+d.under(7), 1+d.under(20))
		wantPrint(t, s, spelt(s))
		wantShape(t, wkt.Print(s), s)
		loose := d.loose(spelt(s))
		wantShape(t, loose, s)
		again, _, _ := wkt.Parse(loose)
		wantShape(t, wkt.Print(again), again)
		if t.Failed() {
			t.Fatalf("seed %d", seed)
		}
	}
}

// loose is another text of the same shape: with other blanks, letters and signs, and some points of multipoints without brackets.
func (d *dice) loose(text string) string {
	out := d.blanks()
	l, _, _ := wkt.Tokens(text)
	for i, s := range l {
		out += d.piece(s)
		if i+1 == len(l) {
			break
		}
		if glued := strings.ContainsAny(s+l[i+1], "(),"); !glued || d.under(3) == 0 {
			out += one(d, " ", "\t", "\n")
		}
		out += d.blanks()
	}
	return out + d.blanks()
}

// blanks are some, mostly none.
func (d *dice) blanks() string {
	return strings.Repeat(one(d, " ", "\t", "\n"), max(0, d.under(8)-4))
}

// piece is a token that says the same.
func (d *dice) piece(s string) string {
	switch {
	case strings.ContainsAny(s, "0123456789"):
		if !strings.HasPrefix(s, "-") && d.under(4) == 0 {
			s = "+" + s
		}
		if !strings.Contains(s, ".") && d.under(4) == 0 {
			s += one(d, ".0", ".00", ".0000000")
		}
	case d.under(2) == 0:
		b := []byte(s)
		for i := range b {
			if d.under(2) == 0 {
				b[i] = strings.ToLower(s)[i]
			}
		}
		s = string(b)
	}
	return s
}

// A multipoint's points say the same without brackets.
func TestLoosePoints(t *testing.T) {
	for seed := range 2000 {
		d := thrown(seed + 70000)
		s := d.shape(aMultiPoint, 1+d.under(20))
		var l []string
		for _, p := range s.Parts {
			one := inner(p)
			if d.under(2) == 0 && one != "EMPTY" {
				one = one[1 : len(one)-1]
			}
			l = append(l, one)
		}
		text := "MULTIPOINT EMPTY"
		if len(l) > 0 {
			text = "MULTIPOINT (" + strings.Join(l, ",") + ")"
		}
		wantShape(t, text, s)
		wantShape(t, in(3, text), under(3, s))
	}
}

// As much as there may be: bytes, points, parts.
func TestParseOfMuch(t *testing.T) {
	one := "POINT (1 2)"
	blanks := strings.Repeat(" ", mostBytes-len(one))
	for _, s := range []string{one + blanks, blanks + one, "POINT" + blanks + " (1 2)", "POINT (1 " + blanks + "2)"} {
		wantShape(t, s, point(at(whole, 2*whole)))
		wantWrong(t, s+" ", 0, api.ErrLong)
		wantWrong(t, "\t"+s, 0, api.ErrLong)
	}
	spots := strings.Repeat("0 0,", mostPoints)
	wantShape(t, "LINESTRING("+spots[:len(spots)-1]+")", line(many(mostPoints, at(0, 0))...))
	parts := strings.Repeat("0 0,", mostParts)
	wantShape(t, "MULTIPOINT("+parts[:len(parts)-1]+")", of(aMultiPoint, many(mostParts, point(at(0, 0)))...))
	rings := strings.Repeat("(0 0,0 0,0 0,0 0),", mostParts)
	wantShape(t, "POLYGON("+rings[:len(rings)-1]+")", polygon(many(mostParts, api.Shape{Kind: aRing, XY: many(4, at(0, 0))})...))
}

// What is told is new each time.
func TestParseIsNew(t *testing.T) {
	text := spelt(rich())
	a, _, _ := wkt.Parse(text)
	b, _, _ := wkt.Parse(text)
	a.Parts[1].XY[0] = at(99, 99)
	a.Parts[0] = line()
	_ = append(a.Parts[3].XY, at(5, 5))
	_ = append(a.Parts, point())
	if spelt(b) != text {
		t.Errorf("%s, want %s", spelt(b), text)
	}
	wantShape(t, text, rich())
}

// No two lists of one answer share any: each may grow.
func TestListsAreApart(t *testing.T) {
	s, _, _ := wkt.Parse(spelt(rich()))
	grow(s)
	if got := spelt(s); got != spelt(rich()) {
		t.Errorf("%s, want %s", got, spelt(rich()))
	}
}

// grow writes behind the end of each list.
func grow(s api.Shape) {
	for _, p := range s.Parts {
		grow(p)
	}
	for range 3 {
		_ = append(s.XY, at(123, 456), at(7, 8), at(9, 10))
		_ = append(s.Parts, collection(), collection())
	}
}
