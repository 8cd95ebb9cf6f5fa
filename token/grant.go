package token

import (
	"paravent/api"
	"paravent/geom"
)

// Right tells whether a grant may be.
func Right(g api.Grant) bool {
	if g.Ops < 0 || g.Ops > api.MayAll || g.Zoom < 0 || g.Zoom > api.MaxLevel || g.Until < 0 || g.Until > api.MaxTick {
		return false
	}
	if g.Void {
		return g.Box == api.Rect{}
	}
	return geom.Right(g.Box)
}

// Meet is two grants together.
func Meet(a, b api.Grant) api.Grant {
	if !Right(a) || !Right(b) {
		return api.Grant{}
	}
	m := api.Grant{Ops: a.Ops & b.Ops, Zoom: min(a.Zoom, b.Zoom), Void: true, Until: min(a.Until, b.Until)}
	if a.Void || b.Void {
		return m
	}
	// Only the rectangle that both have makes it one with points: the zero rectangle is one too.
	if box, ok := geom.Meet(a.Box, b.Box); ok {
		m.Box, m.Void = box, false
	}
	return m
}

// Narrower tells whether a grant together with another one is just itself.
func Narrower(a, b api.Grant) bool {
	// The zero grant may be, so that what is met of others that may not be looks like it.
	return Right(a) && Right(b) && Meet(a, b) == a
}
