package wkt_test

import (
	"regexp"
	"slices"
	"strings"
	"testing"

	"hachure/api"
	"hachure/shape"
	"hachure/wkt"
)

// A model by the chapter's words, as a machine that has a stack of what is still to come.

var (
	begun   = regexp.MustCompile(`^([A-Za-z]+|[0-9+\-.]+|[(),])`)
	figures = regexp.MustCompile(`^[0-9+\-.]`)
)

// goal is a thing that is to come: a shape with its name or without, what goes on a list, or a token.
type goal struct {
	what  string
	kind  int
	depth int
}

// machine reads a text, token by token, and makes shapes from the innermost out.
type machine struct {
	rest  string
	at    int
	goals []goal
	open  []api.Shape
	nums  []int
}

// skip goes over blanks.
func (m *machine) skip() {
	tail := strings.TrimLeft(m.rest[m.at:], " \t\n")
	m.at = len(m.rest) - len(tail)
}

// token is the next one; nothing at the end, and at a rune that is none's.
func (m *machine) token() string {
	return begun.FindString(m.rest[m.at:])
}

// will puts goals on the stack, the first one on top.
func (m *machine) will(l ...goal) {
	slices.Reverse(l)
	m.goals = append(m.goals, l...)
}

// begin is a shape that is open from here on.
func (m *machine) begin(kind int) {
	m.open = append(m.open, api.Shape{Kind: kind})
}

// end puts the shape that was opened last into the one around it.
func (m *machine) end() {
	n := len(m.open) - 1
	s := m.open[n]
	m.open = m.open[:n]
	m.open[n-1].Parts = append(m.open[n-1].Parts, s)
}

// step reaches one goal; false: the next token is not as told.
func (m *machine) step(g goal, token string) bool {
	capital := strings.ToUpper(token)
	switch g.what {
	case "named":
		kind := slices.Index(names(), capital)
		if token == "" || kind < 0 {
			return false
		}
		m.at += len(token)
		m.will(goal{"bare", kind, g.depth})
	case "bare":
		return m.bare(g, token, capital)
	case "item":
		m.item(g)
	case "more":
		if token == "," {
			m.at++
			m.will(goal{"item", g.kind, g.depth}, g)
		}
	case "end":
		m.end()
	case "number":
		n, ok := said(token)
		m.at += len(token)
		m.nums = append(m.nums, n)
		return ok
	case "place":
		m.place()
	default:
		m.at += len(token)
		return g.what == token
	}
	return true
}

// bare begins a shape without its name.
func (m *machine) bare(g goal, token, capital string) bool {
	if g.depth > deepest+1 {
		return false
	}
	m.begin(g.kind)
	switch {
	case capital == "EMPTY" && g.kind != aRing:
		m.at += len(token)
		m.will(goal{what: "end"})
	case token == "(" && g.kind == aPoint:
		m.will(goal{what: "("}, goal{what: "number"}, goal{what: "number"}, goal{what: "place"}, goal{what: ")"}, goal{what: "end"})
	case token == "(":
		m.will(goal{what: "("}, goal{"item", g.kind, g.depth}, goal{"more", g.kind, g.depth}, goal{what: ")"}, goal{what: "end"})
	default:
		return false
	}
	return true
}

// item begins one thing of a list of that kind.
func (m *machine) item(g goal) {
	loose := figures.MatchString(m.rest[m.at:])
	switch {
	case g.kind == aLine || g.kind == aRing:
		m.will(goal{what: "number"}, goal{what: "number"}, goal{what: "place"})
	case g.kind == aPolygon:
		m.will(goal{"bare", aRing, g.depth})
	case g.kind == aCollection:
		m.will(goal{"named", 0, g.depth + 1})
	case g.kind == aMultiPoint && loose && g.depth <= deepest:
		m.begin(aPoint)
		m.will(goal{what: "number"}, goal{what: "number"}, goal{what: "place"}, goal{what: "end"})
	default:
		m.will(goal{"bare", g.kind - aMultiPoint + aPoint, g.depth + 1})
	}
}

// place puts the two numbers that were read into the shape that is open.
func (m *machine) place() {
	s := &m.open[len(m.open)-1]
	s.XY = append(s.XY, at(m.nums[0], m.nums[1]))
	m.nums = nil
}

// parsed is what Parse has to tell of a text.
func parsed(text string) (api.Shape, int, api.Errno) {
	if len(text) > mostBytes {
		return api.Shape{}, 0, api.ErrLong
	}
	// Around all is a shape that is none, which holds what is read.
	m := &machine{rest: text, open: make([]api.Shape, 1), goals: []goal{{"named", 0, 1}}}
	for len(m.goals) > 0 {
		m.skip()
		g := m.goals[len(m.goals)-1]
		m.goals = m.goals[:len(m.goals)-1]
		if ahead := m.at; !m.step(g, m.token()) {
			return api.Shape{}, ahead, api.ErrBad
		}
	}
	if m.skip(); m.at < len(text) {
		return api.Shape{}, m.at, api.ErrBad
	}
	s := m.open[0].Parts[0]
	if err := shape.Check(s); err != api.OK {
		return api.Shape{}, 0, err
	}
	return s, 0, api.OK
}

// wantModel holds Parse and Tokens to the models, and the shape that comes of it to its text.
func wantModel(t *testing.T, what string) {
	t.Helper()
	wantMatched(t, what)
	s, n, err := parsed(what)
	if err != api.OK {
		wantWrong(t, what, n, err)
		return
	}
	wantShape(t, what, s)
	wantPrint(t, s, spelt(s))
	if back := spelt(s); len(back) <= mostBytes {
		wantShape(t, back, s)
	}
}

// Texts of each kind are cut at each place, lack each byte, and have another one there, or one more.
func TestEachPlace(t *testing.T) {
	for _, s := range all() {
		text := spelt(s)
		if len(text) > 400 {
			continue
		}
		for i := range len(text) + 1 {
			wantModel(t, text[:i])
			wantModel(t, text[i:])
			for _, c := range "aE1-.,() \r" {
				wantModel(t, text[:i]+string(c)+text[i:])
				if i < len(text) {
					wantModel(t, text[:i]+string(c)+text[i+1:])
				}
			}
			if i < len(text) {
				wantModel(t, text[:i]+text[i+1:])
			}
		}
		if t.Failed() {
			t.Fatalf("of %q", text)
		}
	}
}

// Rows of a few tokens, all that there are.
func TestShortRows(t *testing.T) {
	l := []string{"POINT", "line", "LINESTRING (1 2", "POLYGON (", "MULTIPOINT", "MULTIPOLYGON (", "MULTILINESTRING (", "GEOMETRYCOLLECTION ("}
	for range 9 {
		var longer []string
		for _, s := range l {
			wantModel(t, s)
			if _, n, err := parsed(s); err == api.ErrBad && n < len(s) {
				// Whatever follows, it stays wrong there.
				continue
			}
			for _, c := range []string{"(", ")", ",", "1", "empty", "point", ";"} {
				longer = append(longer, s+" "+c)
			}
		}
		l = longer
	}
}

// pieces are what thrown texts are made of.
func pieces() []string {
	l := []string{"EMPTY", "(", ")", ",", "1", "2", "-0.5", "3 4", "(1 2)", "(0 0, 1 0, 0 1, 0 0)", "1.", "+", "x", "\xff", "\u00e9", " ", "\n", ", ", "922337203685.4775807", "-922337203685.4775808"}
	for _, s := range names() {
		l = append(l, s+" ", strings.ToLower(s)+"(")
	}
	return append(l, in(14, "")[:14*20], "GEOMETRYCOLLECTION (GEOMETRYCOLLECTION (")
}

// Texts that were thrown together, and those of shapes, of which some places are spoilt.
func TestThrownTexts(t *testing.T) {
	all := pieces()
	for seed := range 8000 {
		d := thrown(seed)
		text := ""
		for range 1 + d.under(12) {
			text += one(d, all...)
		}
		wantModel(t, text)
		text = d.loose(in(d.under(18), spelt(d.shape(1+d.under(7), 1+d.under(10)))))
		wantModel(t, text)
		for range 1 + d.under(3) {
			i := d.under(len(text) + 1)
			j := min(len(text), i+d.under(4))
			text = text[:i] + one(d, append(all, "", "", "")...) + text[j:]
		}
		wantModel(t, text)
		if t.Failed() {
			t.Fatalf("seed %d: %q", seed, text)
		}
	}
}

// FuzzModel holds any text to the models.
func FuzzModel(f *testing.F) {
	for _, s := range all() {
		f.Add(spelt(s))
	}
	for _, s := range wrongs() {
		f.Add(strings.Replace(s, "^", "", 1))
	}
	for _, s := range pieces() {
		f.Add(s)
	}
	f.Fuzz(func(t *testing.T, text string) {
		wantModel(t, text)
		wantSaid(t, text)
		if n, ok := wkt.Number(text); ok {
			wantNumber(t, wkt.Ordinate(n), n)
		}
	})
}
