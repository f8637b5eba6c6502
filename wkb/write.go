package wkb

import (
	"hachure/api"
	"hachure/shape"
)

// write puts the numbers of s, which may be, one behind the other, each with how many bytes it has.
func write(s api.Shape, little bool, put func(n uint64, size int)) {
	if s.Kind != shape.Ring {
		put(orderByte(little), orderSize)
		put(uint64(s.Kind), numberSize)
	}
	switch s.Kind {
	case shape.Point:
		writePoint(only(s.XY), put)
	case shape.Ring, shape.Line:
		put(uint64(len(s.XY)), numberSize)
		for _, p := range s.XY {
			writePoint(p, put)
		}
	default:
		put(uint64(len(s.Parts)), numberSize)
		for _, p := range s.Parts {
			write(p, little, put)
		}
	}
}

// writePoint puts a point's ordinates.
func writePoint(p api.Point, put func(n uint64, size int)) {
	put(uint64(p.X), ordinateSize)
	put(uint64(p.Y), ordinateSize)
}

// orderByte is what the byte of order is.
func orderByte(little bool) uint64 {
	if little {
		return lowestFirst
	}
	return greatestFirst
}

// only is the point that a shape of Kind Point has.
func only(l []api.Point) api.Point {
	if len(l) == 0 {
		return nowhere()
	}
	return l[0]
}

// nowhere is what stands in the bytes of a Point that has no point.
func nowhere() api.Point {
	return api.Point{X: shape.Nowhere, Y: shape.Nowhere}
}
