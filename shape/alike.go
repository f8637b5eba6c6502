package shape

import (
	"slices"

	"hachure/api"
)

// mostNested is how many parts the document lets lie in one another; so even the copy of a shape that lies in itself has an end.
const mostNested = 1 << 16

// Equal says whether both are alike, as deep as shapes are looked at.
func Equal(a, b api.Shape) bool {
	return alike(a, b, 1)
}

// Copy is a shape like s, in new memory; it has what lies too deep to be looked at, too.
func Copy(s api.Shape) api.Shape {
	return copied(s, mostNested)
}

// alike says whether two shapes at that depth are.
func alike(a, b api.Shape, depth int) bool {
	if a.Kind != b.Kind || !slices.Equal(a.XY, b.XY) {
		return false
	}
	return slices.EqualFunc(seen(a, depth), seen(b, depth), func(p, q api.Shape) bool {
		return alike(p, q, depthIn(a, p, depth))
	})
}

// copied is a copy of s, with at most so many parts in one another.
func copied(s api.Shape, nested int) api.Shape {
	out := api.Shape{Kind: s.Kind, XY: slices.Clone(s.XY)}
	if nested == 0 {
		return out
	}
	for _, p := range s.Parts {
		out.Parts = append(out.Parts, copied(p, nested-1))
	}
	return out
}
