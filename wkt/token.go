package wkt

// class is what a rune is; a token is of its runes' class.
type class int

const (
	alien  class = iota // it may be in no text
	blank               // it stands between tokens
	letter              // words are made of these,
	figure              // and numbers of these
	mark                // it is a token by itself
	end                 // there is no rune
)

// token is a piece of a text, and the byte at which it begins.
type token struct {
	class class
	runes []rune
	at    int
}

// text is what the token says.
func (t token) text() string {
	return string(t.runes)
}

// cut is the tokens of a text. A rune that may be in none is a token, too, and the last one: what lies behind it is not looked at.
func cut(text string) []token {
	var l []token
	last := blank
	for at, r := range text {
		c := classOf(r)
		switch {
		case c == blank:
		case c == last && c.grows():
			t := &l[len(l)-1]
			t.runes = append(t.runes, r)
		default:
			l = append(l, token{c, []rune{r}, at})
		}
		if c == alien {
			return l
		}
		last = c
	}
	return l
}

// grows says whether a token of that class may have several runes.
func (c class) grows() bool {
	return c == letter || c == figure
}

// classOf is a rune's class. Bytes that are no rune come as one that is none's.
func classOf(r rune) class {
	switch {
	case 'A' <= r && r <= 'Z' || 'a' <= r && r <= 'z':
		return letter
	case digit(r):
		return figure
	}
	switch r {
	case ' ', '\t', '\n':
		return blank
	case '+', '-', '.':
		return figure
	case '(', ')', ',':
		return mark
	}
	return alien
}

// digit says whether a rune is one that numbers have.
func digit(r rune) bool {
	return '0' <= r && r <= '9'
}

// row is tokens that are told one by one; behind the last one is the text's end, however often it is asked.
type row struct {
	rest []token
	end  int // where the text ends
}

// peek is the next token, which stays.
func (r *row) peek() token {
	if len(r.rest) == 0 {
		return token{class: end, at: r.end}
	}
	return r.rest[0]
}

// next is the next token, which goes.
func (r *row) next() token {
	t := r.peek()
	r.rest = r.rest[min(1, len(r.rest)):]
	return t
}
