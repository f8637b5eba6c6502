package box

import (
	"hachure/api"
	"hachure/wide"
)

// Area is the product of b's sides; 0 of None.
func Area(b api.Box) wide.U {
	b = orNone(b)
	return wide.Times(wide.Span(b.Low.X, b.High.X), wide.Span(b.Low.Y, b.High.Y))
}

// Growth is by how much the area of both is above a's.
func Growth(a, b api.Box) wide.U {
	// The union has all that a has, so this is never below 0.
	more, _ := wide.Sub(Area(Union(a, b)), Area(a))
	return more
}

// Waste is how far the area of both lies from their own areas together, and whether it lies below them.
func Waste(a, b api.Box) (wide.U, bool) {
	// An area has at most 128 bits, so two of them always have a sum.
	own, _ := wide.Add(Area(a), Area(b))
	both := Area(Union(a, b))
	if more, ok := wide.Sub(both, own); ok {
		return more, false
	}
	less, _ := wide.Sub(own, both)
	return less, true
}
