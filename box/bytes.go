package box

import (
	"hachure/api"
	"hachure/octet"
)

// ordinateSize is how many bytes an ordinate has.
const ordinateSize = 8

// Bytes is b's four ordinates; nothing, if it has no points.
func Bytes(b api.Box) []byte {
	if orNone(b) == None() {
		return nil
	}
	var out []byte
	for _, n := range [...]int{b.Low.X, b.High.X, b.Low.Y, b.High.Y} {
		out = octet.Put(out, uint64(n), ordinateSize, false)
	}
	return out
}

// Parse is the box of which b is the Bytes.
func Parse(b []byte) (api.Box, api.Errno) {
	s := octet.Read(b)
	lowX, highX, lowY, highY := s.Int(false), s.Int(false), s.Int(false), s.Int(false)
	if err := s.End(); err != api.OK {
		return api.Box{}, err
	}
	out := api.Box{Low: api.Point{X: lowX, Y: lowY}, High: api.Point{X: highX, Y: highY}}
	if !Good(out) {
		return api.Box{}, api.ErrBad
	}
	return out, api.OK
}
