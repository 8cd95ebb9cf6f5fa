// Package geom has points and closed rectangles of a grid of 2^16 by 2^16 points.
package geom

import (
	"paravent/api"
)

// spot is a point that is asked something.
type spot api.Point

// box is a rectangle that is asked something.
type box api.Rect

// fits tells whether the point is one of the grid.
func (p spot) fits() bool {
	return p.X >= 0 && p.X < api.Side && p.Y >= 0 && p.Y < api.Side
}

// has tells whether the point is one of the rectangle.
func (b box) has(p spot) bool {
	return p.X >= b.X0 && p.X <= b.X1 && p.Y >= b.Y0 && p.Y <= b.Y1
}

// both tells whether something holds of the least corner and of the greatest one.
func (b box) both(holds func(spot) bool) bool {
	return holds(spot{X: b.X0, Y: b.Y0}) && holds(spot{X: b.X1, Y: b.Y1})
}

// Fits tells whether a point may be.
func Fits(p api.Point) bool {
	return spot(p).fits()
}

// Right tells whether a rectangle may be.
func Right(r api.Rect) bool {
	return box(r).both(spot.fits) && r.X0 <= r.X1 && r.Y0 <= r.Y1
}

// Grid is the rectangle of all points.
func Grid() api.Rect {
	return api.Rect{X1: api.Side - 1, Y1: api.Side - 1}
}

// Has tells whether a rectangle has a point.
func Has(r api.Rect, p api.Point) bool {
	return Right(r) && Fits(p) && box(r).has(spot(p))
}

// In tells whether all points of a are b's too.
func In(a, b api.Rect) bool {
	return Right(a) && Right(b) && box(a).both(box(b).has)
}

// Meets tells whether two rectangles have a point in common.
func Meets(a, b api.Rect) bool {
	_, ok := Meet(a, b)
	return ok
}

// Meet is what two rectangles have in common.
func Meet(a, b api.Rect) (api.Rect, bool) {
	if !Right(a) || !Right(b) {
		return api.Rect{}, false
	}
	m := api.Rect{
		X0: max(a.X0, b.X0), Y0: max(a.Y0, b.Y0),
		X1: min(a.X1, b.X1), Y1: min(a.Y1, b.Y1),
	}
	if !Right(m) {
		return api.Rect{}, false
	}
	return m, true
}

// Hull is the least rectangle that has two.
func Hull(a, b api.Rect) api.Rect {
	if !Right(a) || !Right(b) {
		return api.Rect{}
	}
	return api.Rect{
		X0: min(a.X0, b.X0), Y0: min(a.Y0, b.Y0),
		X1: max(a.X1, b.X1), Y1: max(a.Y1, b.Y1),
	}
}

// Area is how many points a rectangle has.
func Area(r api.Rect) uint64 {
	if !Right(r) {
		return 0
	}
	return (gap(r.X0, r.X1) + 1) * (gap(r.Y0, r.Y1) + 1)
}

// gap is how far apart two numbers of the grid are. Squares and areas need more than the 32 bits that an int may have.
func gap(a, b int) uint64 {
	return uint64(max(a, b) - min(a, b))
}

// Apart is how far apart two points are.
func Apart(p, q api.Point) uint64 {
	if !Fits(p) || !Fits(q) {
		return 0
	}
	dx, dy := gap(p.X, q.X), gap(p.Y, q.Y)
	return dx*dx + dy*dy
}

// Dist is how far a point is from a rectangle.
func Dist(r api.Rect, p api.Point) uint64 {
	if !Right(r) || !Fits(p) {
		return 0
	}
	return Apart(Nearest(r, p), p)
}

// Nearest is the point of a rectangle that is nearest to a point.
func Nearest(r api.Rect, p api.Point) api.Point {
	if !Right(r) || !Fits(p) {
		return api.Point{}
	}
	return api.Point{
		X: min(max(p.X, r.X0), r.X1),
		Y: min(max(p.Y, r.Y0), r.Y1),
	}
}

// Corners are a rectangle's corners, also where they are the same points.
func Corners(r api.Rect) []api.Point {
	if !Right(r) {
		return nil
	}
	return []api.Point{
		{X: r.X0, Y: r.Y0},
		{X: r.X1, Y: r.Y0},
		{X: r.X0, Y: r.Y1},
		{X: r.X1, Y: r.Y1},
	}
}
