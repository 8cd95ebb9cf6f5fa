package region_test

import (
	"math/rand"
	"slices"
	"testing"

	"paravent/api"
	"paravent/region"
)

const last = api.Side - 1

func rc(x0, y0, x1, y1 int) api.Rect { return api.Rect{X0: x0, Y0: y0, X1: x1, Y1: y1} }

func pt(x, y int) api.Point { return api.Point{X: x, Y: y} }

// A model is the document's words: regions of a small square, whose points are gone through one by one.

// side is the side of the square.
const side = 9

// plot are the points of the square that count.
type plot [side][side]bool

// plotted are those of a region.
func plotted(l []api.Rect) plot {
	var p plot
	for _, r := range l {
		for y := r.Y0; y <= r.Y1; y++ {
			for x := r.X0; x <= r.X1; x++ {
				p[y][x] = true
			}
		}
	}
	return p
}

// both are those that count by what two plots have.
func both(a, b plot, counts func(a, b bool) bool) plot {
	var p plot
	for y := range side {
		for x := range side {
			p[y][x] = counts(a[y][x], b[y][x])
		}
	}
	return p
}

func or(a, b bool) bool  { return a || b }
func and(a, b bool) bool { return a && b }
func but(a, b bool) bool { return a && !b }

// formOf is the form of a plot.
func formOf(p plot) []api.Rect {
	var l []api.Rect
	for y0 := 0; y0 < side; {
		y1 := y0
		for y1+1 < side && p[y1+1] == p[y0] {
			y1++
		}
		for x0 := 0; x0 < side; x0++ {
			if !p[y0][x0] || x0 > 0 && p[y0][x0-1] {
				continue
			}
			x1 := x0
			for x1+1 < side && p[y0][x1+1] {
				x1++
			}
			l = append(l, rc(x0, y0, x1, y1))
		}
		y0 = y1 + 1
	}
	return l
}

// glass lays the square upon the grid: each of its points is as many of the grid's, in one or in both ways. What is form stays form.
type glass struct{ x, y [side + 1]int }

func someGlass(r *rand.Rand) glass {
	return glass{x: someSteps(r), y: someSteps(r)}
}

// someSteps are where the columns or rows begin, and where the last one is over: at the grid's beginning, at its end, somewhere or all over it.
func someSteps(r *rand.Rand) [side + 1]int {
	var s [side + 1]int
	switch n := r.Intn(4); n {
	case 0, 1, 2:
		from := []int{0, api.Side - side, r.Intn(api.Side - side)}[n]
		for i := range s {
			s[i] = from + i
		}
	case 3:
		l := r.Perm(api.Side - 1)[:side-1]
		slices.Sort(l)
		for i, n := range l {
			s[i+1] = n + 1
		}
		s[side] = api.Side
	}
	return s
}

func (g glass) rect(r api.Rect) api.Rect {
	return rc(g.x[r.X0], g.y[r.Y0], g.x[r.X1+1]-1, g.y[r.Y1+1]-1)
}

func (g glass) rects(l []api.Rect) []api.Rect {
	var all []api.Rect
	for _, r := range l {
		all = append(all, g.rect(r))
	}
	return all
}

// area is how many points of the grid are under a plot.
func (g glass) area(p plot) uint64 {
	var n uint64
	for y := range side {
		for x := range side {
			if p[y][x] {
				n += uint64(g.x[x+1]-g.x[x]) * uint64(g.y[y+1]-g.y[y])
			}
		}
	}
	return n
}

// Some of all that there is.

func someRect(r *rand.Rand) api.Rect {
	x0, y0 := r.Intn(side), r.Intn(side)
	return rc(x0, y0, x0+r.Intn(side-x0), y0+r.Intn(side-y0))
}

// someRegion is a region of the square: a few rectangles, small ones, or points.
func someRegion(r *rand.Rand) []api.Rect {
	var l []api.Rect
	small := r.Intn(3)
	for range []int{r.Intn(4), r.Intn(8), r.Intn(60)}[small] {
		b := someRect(r)
		if small > 0 {
			b.X1, b.Y1 = min(b.X1, b.X0+2-small), min(b.Y1, b.Y0+2-small)
		}
		l = append(l, b)
	}
	return l
}

// badRects may not be.
func badRects() []api.Rect {
	return []api.Rect{
		rc(1, 0, 0, 0), rc(0, 1, 0, 0), rc(-1, 0, 3, 3), rc(0, -1, 3, 3), rc(0, 0, api.Side, 3), rc(0, 0, 3, api.Side),
		rc(-1, -1, api.Side, api.Side), rc(api.Side, 0, api.Side, 0), rc(last, last, 0, 0), rc(-1<<62, 0, 1<<62, 0), rc(1<<62, 0, -1<<62, 0),
		rc(-1<<63, -1<<63, 1<<63-1, 1<<63-1), rc(1<<63-1, 1<<63-1, -1<<63, -1<<63),
	}
}

func wantForm(t *testing.T, what string, got []api.Rect, e api.Errno, want []api.Rect) {
	t.Helper()
	if e != api.OK || !slices.Equal(got, want) {
		t.Errorf("%s: %v, %v, want %v", what, got, e, want)
	}
}

func wantUnion(t *testing.T, a []api.Rect, want ...api.Rect) {
	t.Helper()
	got, e := region.Union(a)
	wantForm(t, "Union", got, e, want)
}
