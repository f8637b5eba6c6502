package wkt

import (
	"strings"

	"hachure/api"
	"hachure/shape"
)

// named is the text of a shape, with its name.
func named(s api.Shape) string {
	return shape.Name(s.Kind) + " " + bare(s)
}

// bare is the text of a shape, without its name.
func bare(s api.Shape) string {
	var l []string
	for _, p := range s.XY {
		l = append(l, Ordinate(p.X)+" "+Ordinate(p.Y))
	}
	part := bare
	if s.Kind == shape.Collection {
		part = named
	}
	for _, p := range s.Parts {
		l = append(l, part(p))
	}
	if len(l) == 0 {
		return empty
	}
	return "(" + strings.Join(l, ", ") + ")"
}
