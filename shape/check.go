package shape

import "hachure/api"

// fewestInRing is how many points a ring has: three corners, and the first one again.
const fewestInRing = 4

// Check tells the first thing that is wrong with the whole of s.
func Check(s api.Shape) api.Errno {
	switch {
	case Depth(s) > api.MaxDepth:
		return api.ErrDeep
	case Parts(s) > MaxParts || Points(s) > MaxPoints:
		return api.ErrLong
	case s.Kind == Ring || !every(s, good):
		return api.ErrBad
	case !every(s, placed):
		return api.ErrRange
	}
	return api.OK
}

// every says whether s and all in it are as is asked.
func every(s api.Shape, is func(api.Shape) bool) bool {
	for _, p := range whole(s, 1) {
		if !is(p) {
			return false
		}
	}
	return true
}

// good says whether a shape has the points and the kinds of parts that its kind asks for; what its parts have is not looked at.
func good(s api.Shape) bool {
	r, ok := ruleOf(s.Kind)
	if !ok || !goodPoints(s.Kind, s.XY) {
		return false
	}
	for _, p := range s.Parts {
		if !r.holds(p.Kind) {
			return false
		}
	}
	return true
}

// goodPoints says whether these may be the points that a shape of that kind has itself.
func goodPoints(kind int, l []api.Point) bool {
	switch kind {
	case Ring:
		return len(l) >= fewestInRing && l[0] == l[len(l)-1]
	case Point:
		return len(l) <= 1
	case Line:
		return len(l) != 1
	}
	return len(l) == 0
}

// placed says whether each point that a shape has itself is somewhere.
func placed(s api.Shape) bool {
	for _, p := range s.XY {
		if p.X == Nowhere || p.Y == Nowhere {
			return false
		}
	}
	return true
}
