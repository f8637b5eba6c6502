package shape

import (
	"iter"
	"slices"

	"hachure/api"
)

// deepest is how deep shapes are looked at: one more than they may be, so that what is too deep is told from what is not.
const deepest = api.MaxDepth + 1

// Points is how many s and all in it have; all that are too many count as one.
func Points(s api.Shape) int {
	n := 0
	for _, p := range whole(s, 1) {
		n += len(p.XY)
		if n > MaxPoints {
			return MaxPoints + 1
		}
	}
	return n
}

// Parts is how many parts s and all in it have; all that are too many count as one.
func Parts(s api.Shape) int {
	// The shape itself, which is told first, is no part.
	n := -1
	for range whole(s, 1) {
		n++
		if n > MaxParts {
			break
		}
	}
	return n
}

// Depth is how many shapes lie in one another, from s on.
func Depth(s api.Shape) int {
	most := 0
	for depth := range whole(s, 1) {
		most = max(most, depth)
		if most == deepest {
			break
		}
	}
	return most
}

// Empty says whether s has no points.
func Empty(s api.Shape) bool {
	return Points(s) == 0
}

// All tells the points of s, then those of its parts, part by part.
func All(s api.Shape) iter.Seq[api.Point] {
	// They are taken now, since the lists of s may be changed ahead of their turn.
	var l []api.Point
	for _, p := range whole(s, 1) {
		l = append(l, p.XY...)
	}
	return slices.Values(l)
}

// whole tells a shape that lies at a depth, and then all in it, each with its own depth.
func whole(s api.Shape, depth int) iter.Seq2[int, api.Shape] {
	return func(yield func(int, api.Shape) bool) {
		if !yield(depth, s) {
			return
		}
		for _, p := range seen(s, depth) {
			for d, q := range whole(p, depthIn(s, p, depth)) {
				if !yield(d, q) {
					return
				}
			}
		}
	}
}

// seen is the parts of a shape at that depth that are looked at, as they do not lie too deep.
func seen(s api.Shape, depth int) []api.Shape {
	if depth < deepest {
		return s.Parts
	}
	var l []api.Shape
	for _, p := range s.Parts {
		if depthIn(s, p, depth) <= deepest {
			l = append(l, p)
		}
	}
	return l
}

// depthIn is where a part of a shape at that depth lies: the rings of a polygon are where it is.
func depthIn(s, part api.Shape, depth int) int {
	if s.Kind == Polygon && part.Kind == Ring {
		return depth
	}
	return depth + 1
}
