package blob

import (
	"strings"

	"hachure/api"
	"hachure/box"
	"hachure/octet"
)

// mark is what each blob begins with; a byte of flags follows.
const mark = "GP\x00"

// The flags; two bits between them are nothing's.
const (
	littleFlag = 1 << iota
	boxedFlag
	_
	_
	emptyFlag
)

// Where the reference system stands, and how many bytes each thing has.
const (
	srsAt        = len(mark) + 1
	srsSize      = 4
	ordinateSize = 8
	boxSize      = 4 * ordinateSize
)

// Which numbers a reference system may have: those that its four bytes hold.
const (
	leastSrs = -1 << 31
	mostSrs  = 1<<31 - 1
)

// headBytes is h as it stands in a blob.
func headBytes(h Head) []byte {
	out := join([]byte(mark), []byte{flags(h)}, number(h.Srs, srsSize, h.Little))
	if !h.Boxed {
		return out
	}
	for _, n := range [...]int{h.Box.Low.X, h.Box.High.X, h.Box.Low.Y, h.Box.High.Y} {
		out = join(out, number(n, ordinateSize, h.Little))
	}
	return out
}

// headSize is how many bytes a head has; its flags alone are asked.
func headSize(h Head) int {
	if h.Boxed {
		return srsAt + srsSize + boxSize
	}
	return srsAt + srsSize
}

// begun is a head that has what the flags of b say, if they are there; not ok: no blob begins as b does.
func begun(b []byte) (Head, bool) {
	if !strings.HasPrefix(mark, string(b[:min(len(b), len(mark))])) {
		return Head{}, false
	}
	if len(b) <= len(mark) {
		return Head{}, true
	}
	f := b[len(mark)]
	h := Head{Little: f&littleFlag != 0, Boxed: f&boxedFlag != 0, Empty: f&emptyFlag != 0}
	return h, flags(h) == f && !(h.Boxed && h.Empty)
}

// filled is h with what follows its flags in b, of which as much is there as the flags ask for.
func filled(h Head, b []byte) Head {
	s := octet.Read(b)
	// Of its four bytes the greatest one has the sign.
	h.Srs = int(int32(s.Num(srsSize, h.Little)))
	h.Box = box.None()
	if h.Boxed {
		lowX, highX, lowY, highY := s.Int(h.Little), s.Int(h.Little), s.Int(h.Little), s.Int(h.Little)
		h.Box = api.Box{Low: api.Point{X: lowX, Y: lowY}, High: api.Point{X: highX, Y: highY}}
	}
	return h
}

// flags is the byte that says what h is like.
func flags(h Head) byte {
	return bit(h.Little, littleFlag) | bit(h.Boxed, boxedFlag) | bit(h.Empty, emptyFlag)
}

// bit is a flag, if it is set.
func bit(set bool, flag byte) byte {
	if set {
		return flag
	}
	return 0
}

// number is n in so many bytes.
func number(n, size int, little bool) []byte {
	return octet.Put(nil, uint64(n), size, little)
}

// join is all pieces, one behind the other, in memory of its own.
func join(pieces ...[]byte) []byte {
	var out []byte
	for _, p := range pieces {
		out = append(out, p...)
	}
	return out
}
