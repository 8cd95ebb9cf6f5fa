package geom_test

import (
	"math"
	"slices"
	"testing"

	"paravent/api"
	"paravent/geom"
)

const last = api.Side - 1

func pt(x, y int) api.Point { return api.Point{X: x, Y: y} }

func rc(x0, y0, x1, y1 int) api.Rect { return api.Rect{X0: x0, Y0: y0, X1: x1, Y1: y1} }

// patchSide is the side of the small squares in which every point and rectangle is tried.
const patchSide = 4

// patches are the least corners of such squares: at corners and sides of the grid, and in the midst of it.
func patches() []api.Point {
	far := last - patchSide + 1
	return []api.Point{pt(0, 0), pt(far, 0), pt(0, far), pt(far, far), pt(1000, 30000)}
}

func pointsOf(r api.Rect) []api.Point {
	var l []api.Point
	for y := r.Y0; y <= r.Y1; y++ {
		for x := r.X0; x <= r.X1; x++ {
			l = append(l, pt(x, y))
		}
	}
	return l
}

func patch(at api.Point) api.Rect {
	return rc(at.X, at.Y, at.X+patchSide-1, at.Y+patchSide-1)
}

// rectsOf are all rectangles of a square.
func rectsOf(r api.Rect) []api.Rect {
	var l []api.Rect
	for _, a := range pointsOf(r) {
		for _, b := range pointsOf(r) {
			if a.X <= b.X && a.Y <= b.Y {
				l = append(l, rc(a.X, a.Y, b.X, b.Y))
			}
		}
	}
	return l
}

// inside tells of points and rectangles that may be, by the document's words alone.
func inside(r api.Rect, p api.Point) bool {
	return r.X0 <= p.X && p.X <= r.X1 && r.Y0 <= p.Y && p.Y <= r.Y1
}

func square(n int) uint64 { return uint64(n * n) }

func badPoints() []api.Point {
	return []api.Point{
		pt(-1, 0), pt(0, -1), pt(-1, -1), pt(api.Side, 0), pt(0, api.Side), pt(api.Side, api.Side),
		pt(5, -1), pt(-1, 5), pt(5, api.Side), pt(api.Side, 5),
		pt(math.MinInt, 5), pt(5, math.MinInt), pt(math.MaxInt, 5), pt(5, math.MaxInt),
		pt(math.MinInt, math.MaxInt), pt(math.MaxInt, math.MaxInt),
	}
}

func badRects() []api.Rect {
	l := []api.Rect{
		rc(1, 0, 0, 0), rc(0, 1, 0, 0), rc(4, 4, 3, 5), rc(4, 4, 5, 3), rc(4, 4, 3, 3),
		rc(last, 0, 0, last), rc(0, last, last, 0), rc(last, last, 0, 0),
		rc(-1, 0, 5, 5), rc(0, -1, 5, 5), rc(0, 0, api.Side, 5), rc(0, 0, 5, api.Side),
		rc(-1, -1, api.Side, api.Side), rc(-2, 0, -1, 5), rc(0, -2, 5, -1),
		rc(api.Side, 0, api.Side+1, 5), rc(0, api.Side, 5, api.Side+1),
		rc(0, 0, math.MaxInt, math.MaxInt), rc(math.MinInt, math.MinInt, 5, 5),
		rc(math.MinInt, math.MinInt, math.MaxInt, math.MaxInt),
		rc(math.MaxInt, math.MaxInt, math.MinInt, math.MinInt),
	}
	for _, p := range badPoints() {
		l = append(l, rc(p.X, p.Y, p.X, p.Y))
	}
	return l
}

func goodPoints() []api.Point {
	return []api.Point{pt(0, 0), pt(last, 0), pt(0, last), pt(last, last), pt(6, 5), pt(1000, 30000)}
}

func goodRects() []api.Rect {
	return []api.Rect{
		rc(0, 0, last, last), rc(0, 0, 0, 0), rc(last, last, last, last), rc(0, last, last, last),
		rc(last, 0, last, last), rc(0, 0, 3, 1), rc(2, 1, 9, 9), rc(5, 9, 5, 9),
	}
}

// P2.1

func TestFits(t *testing.T) {
	for _, p := range goodPoints() {
		if !geom.Fits(p) {
			t.Errorf("Fits(%v) is false", p)
		}
	}
	for _, p := range badPoints() {
		if geom.Fits(p) {
			t.Errorf("Fits(%v) is true", p)
		}
	}
}

func TestRight(t *testing.T) {
	for _, r := range goodRects() {
		if !geom.Right(r) {
			t.Errorf("Right(%v) is false", r)
		}
	}
	for _, r := range badRects() {
		if geom.Right(r) {
			t.Errorf("Right(%v) is true", r)
		}
	}
}

func TestGrid(t *testing.T) {
	if g := geom.Grid(); g != rc(0, 0, 65535, 65535) {
		t.Error("Grid is", g)
	}
	for _, p := range goodPoints() {
		if !geom.Has(geom.Grid(), p) {
			t.Errorf("the grid hasn't %v", p)
		}
	}
}

func TestHas(t *testing.T) {
	r := rc(10, 20, 12, 21)
	for _, p := range pointsOf(rc(8, 18, 14, 23)) {
		if got, want := geom.Has(r, p), p.X >= 10 && p.X <= 12 && (p.Y == 20 || p.Y == 21); got != want {
			t.Errorf("Has(%v, %v) is %v", r, p, got)
		}
	}
}

func TestIn(t *testing.T) {
	for _, c := range []struct {
		a, b api.Rect
		want bool
	}{
		{rc(2, 2, 3, 3), rc(2, 2, 3, 3), true},
		{rc(2, 2, 3, 3), rc(0, 0, 9, 9), true},
		{rc(0, 0, 9, 9), rc(2, 2, 3, 3), false},
		{rc(2, 2, 3, 3), rc(3, 2, 9, 9), false},
		{rc(2, 2, 3, 3), rc(2, 3, 9, 9), false},
		{rc(2, 2, 3, 3), rc(0, 0, 2, 9), false},
		{rc(2, 2, 3, 3), rc(0, 0, 9, 2), false},
		{rc(0, 0, last, last), rc(0, 0, last, last), true},
		{rc(0, 0, last, last), rc(0, 0, last, last-1), false},
	} {
		if got := geom.In(c.a, c.b); got != c.want {
			t.Errorf("In(%v, %v) is %v", c.a, c.b, got)
		}
	}
}

// P2.2

func TestMeet(t *testing.T) {
	for _, c := range []struct {
		a, b, want api.Rect
		ok         bool
	}{
		{rc(0, 0, 3, 1), rc(2, 1, 9, 9), rc(2, 1, 3, 1), true},
		{rc(0, 0, 3, 1), rc(3, 1, 9, 9), rc(3, 1, 3, 1), true},
		{rc(0, 0, 3, 1), rc(4, 0, 9, 9), rc(0, 0, 0, 0), false},
		{rc(0, 0, 3, 1), rc(0, 2, 9, 9), rc(0, 0, 0, 0), false},
		{rc(0, 4, 9, 5), rc(4, 0, 5, 9), rc(4, 4, 5, 5), true},
		{rc(0, 0, last, last), rc(7, 8, 9, 10), rc(7, 8, 9, 10), true},
		{rc(0, 0, 0, 0), rc(0, 0, 0, 0), rc(0, 0, 0, 0), true},
		{rc(0, 0, 0, 0), rc(last, last, last, last), rc(0, 0, 0, 0), false},
	} {
		for _, turned := range []bool{false, true} {
			a, b := c.a, c.b
			if turned {
				a, b = b, a
			}
			if got, ok := geom.Meet(a, b); got != c.want || ok != c.ok {
				t.Errorf("Meet(%v, %v) = %v, %v", a, b, got, ok)
			}
			if got := geom.Meets(a, b); got != c.ok {
				t.Errorf("Meets(%v, %v) is %v", a, b, got)
			}
		}
	}
}

func TestHull(t *testing.T) {
	for _, c := range []struct{ a, b, want api.Rect }{
		{rc(0, 0, 3, 1), rc(2, 1, 9, 9), rc(0, 0, 9, 9)},
		{rc(5, 6, 5, 6), rc(2, 9, 3, 9), rc(2, 6, 5, 9)},
		{rc(5, 6, 7, 8), rc(6, 7, 6, 7), rc(5, 6, 7, 8)},
		{rc(0, last, 0, last), rc(last, 0, last, 0), rc(0, 0, last, last)},
		{rc(5, 5, 5, 5), rc(5, 5, 5, 5), rc(5, 5, 5, 5)},
	} {
		if got := geom.Hull(c.a, c.b); got != c.want {
			t.Errorf("Hull(%v, %v) = %v, want %v", c.a, c.b, got, c.want)
		}
		if got := geom.Hull(c.b, c.a); got != c.want {
			t.Errorf("Hull(%v, %v) = %v, want %v", c.b, c.a, got, c.want)
		}
	}
}

// P2.3

func TestArea(t *testing.T) {
	for _, c := range []struct {
		r    api.Rect
		want uint64
	}{
		{rc(0, 0, 3, 1), 8},
		{rc(7, 7, 7, 7), 1},
		{rc(last, last, last, last), 1},
		{rc(0, 5, last, 5), 1 << 16},
		{rc(0, 0, last, last), 1 << 32},
	} {
		if got := geom.Area(c.r); got != c.want {
			t.Errorf("Area(%v) = %d, want %d", c.r, got, c.want)
		}
	}
	for _, at := range patches() {
		for _, r := range rectsOf(patch(at)) {
			if got, want := geom.Area(r), uint64(len(pointsOf(r))); got != want {
				t.Errorf("Area(%v) = %d, want %d", r, got, want)
			}
		}
	}
}

func TestApart(t *testing.T) {
	for _, c := range []struct {
		p, q api.Point
		want uint64
	}{
		{pt(6, 5), pt(6, 5), 0},
		{pt(3, 1), pt(6, 5), 25},
		{pt(6, 1), pt(3, 5), 25},
		{pt(0, 0), pt(last, 0), 65535 * 65535},
		{pt(0, 0), pt(last, last), 2 * 65535 * 65535},
		{pt(0, last), pt(last, 0), 2 * 65535 * 65535},
	} {
		if got := geom.Apart(c.p, c.q); got != c.want {
			t.Errorf("Apart(%v, %v) = %d, want %d", c.p, c.q, got, c.want)
		}
		if got := geom.Apart(c.q, c.p); got != c.want {
			t.Errorf("Apart(%v, %v) = %d, want %d", c.q, c.p, got, c.want)
		}
	}
}

func TestDistAndNearest(t *testing.T) {
	r := rc(10, 20, 13, 21)
	for _, c := range []struct {
		r    api.Rect
		p, q api.Point
		dist uint64
	}{
		{rc(0, 0, 3, 1), pt(6, 5), pt(3, 1), 25},
		{r, pt(11, 20), pt(11, 20), 0},
		{r, pt(13, 21), pt(13, 21), 0},
		{r, pt(7, 16), pt(10, 20), 25},
		{r, pt(16, 16), pt(13, 20), 25},
		{r, pt(7, 25), pt(10, 21), 25},
		{r, pt(16, 25), pt(13, 21), 25},
		{r, pt(7, 20), pt(10, 20), 9},
		{r, pt(12, 0), pt(12, 20), 400},
		{rc(0, 0, 0, 0), pt(last, last), pt(0, 0), 2 * 65535 * 65535},
		{rc(last, last, last, last), pt(0, 0), pt(last, last), 2 * 65535 * 65535},
	} {
		if got := geom.Nearest(c.r, c.p); got != c.q {
			t.Errorf("Nearest(%v, %v) = %v, want %v", c.r, c.p, got, c.q)
		}
		if got := geom.Dist(c.r, c.p); got != c.dist {
			t.Errorf("Dist(%v, %v) = %d, want %d", c.r, c.p, got, c.dist)
		}
	}
}

func TestCorners(t *testing.T) {
	for _, c := range []struct {
		r    api.Rect
		want []api.Point
	}{
		{rc(1, 2, 3, 4), []api.Point{pt(1, 2), pt(3, 2), pt(1, 4), pt(3, 4)}},
		{rc(0, 0, last, last), []api.Point{pt(0, 0), pt(last, 0), pt(0, last), pt(last, last)}},
		{rc(5, 9, 5, 9), []api.Point{pt(5, 9), pt(5, 9), pt(5, 9), pt(5, 9)}},
		{rc(5, 9, 7, 9), []api.Point{pt(5, 9), pt(7, 9), pt(5, 9), pt(7, 9)}},
		{rc(0, 0, 0, 0), []api.Point{pt(0, 0), pt(0, 0), pt(0, 0), pt(0, 0)}},
	} {
		got := geom.Corners(c.r)
		if !slices.Equal(got, c.want) {
			t.Errorf("Corners(%v) = %v, want %v", c.r, got, c.want)
		}
		got[0] = pt(1, 1)
		if again := geom.Corners(c.r); !slices.Equal(again, c.want) {
			t.Errorf("Corners(%v) shares its points with an earlier answer: %v", c.r, again)
		}
	}
}

// What may not be (all promises, and P1: none of these calls panics).

func TestWrongRects(t *testing.T) {
	for _, bad := range badRects() {
		if geom.Area(bad) != 0 || len(geom.Corners(bad)) != 0 {
			t.Errorf("%v has the area %d, the corners %v", bad, geom.Area(bad), geom.Corners(bad))
		}
		for _, r := range append(goodRects(), badRects()...) {
			for _, c := range [][2]api.Rect{{bad, r}, {r, bad}} {
				m, ok := geom.Meet(c[0], c[1])
				if m != (api.Rect{}) || ok || geom.Meets(c[0], c[1]) {
					t.Errorf("%v and %v meet: %v, %v", c[0], c[1], m, ok)
				}
				if h := geom.Hull(c[0], c[1]); h != (api.Rect{}) {
					t.Errorf("Hull(%v, %v) = %v", c[0], c[1], h)
				}
				if geom.In(c[0], c[1]) {
					t.Errorf("In(%v, %v) is true", c[0], c[1])
				}
			}
		}
		for _, p := range append(goodPoints(), badPoints()...) {
			checkNothing(t, bad, p)
		}
	}
}

func TestWrongPoints(t *testing.T) {
	for _, bad := range badPoints() {
		for _, r := range goodRects() {
			checkNothing(t, r, bad)
		}
		for _, p := range append(goodPoints(), badPoints()...) {
			if geom.Apart(bad, p) != 0 || geom.Apart(p, bad) != 0 {
				t.Errorf("%v and %v are %d and %d apart", bad, p, geom.Apart(bad, p), geom.Apart(p, bad))
			}
		}
	}
}

// checkNothing asks of a rectangle and a point, one of which may not be.
func checkNothing(t *testing.T, r api.Rect, p api.Point) {
	t.Helper()
	if geom.Has(r, p) {
		t.Errorf("Has(%v, %v) is true", r, p)
	}
	if d := geom.Dist(r, p); d != 0 {
		t.Errorf("Dist(%v, %v) = %d", r, p, d)
	}
	if q := geom.Nearest(r, p); q != (api.Point{}) {
		t.Errorf("Nearest(%v, %v) = %v", r, p, q)
	}
}

// P2.4

func TestMeetAndHullByPoints(t *testing.T) {
	for _, at := range patches() {
		all := pointsOf(patch(at))
		rects := rectsOf(patch(at))
		for _, a := range rects {
			for _, b := range rects {
				checkPair(t, a, b, all)
			}
		}
	}
}

// checkPair holds what is said of two rectangles against all points of the square that they are in.
func checkPair(t *testing.T, a, b api.Rect, all []api.Point) {
	t.Helper()
	m, ok := geom.Meet(a, b)
	h := geom.Hull(a, b)
	some, whole := false, true
	least := rc(last, last, 0, 0)
	for _, p := range all {
		inA, inB := inside(a, p), inside(b, p)
		if both := ok && geom.Has(m, p); both != (inA && inB) {
			t.Fatalf("of %v and %v Meet is %v, %v: wrong at %v", a, b, m, ok, p)
		}
		if (inA || inB) && !geom.Has(h, p) {
			t.Fatalf("of %v and %v Hull is %v, without %v", a, b, h, p)
		}
		some = some || inA && inB
		whole = whole && (!inA || inB)
		if inA || inB {
			least = rc(min(least.X0, p.X), min(least.Y0, p.Y), max(least.X1, p.X), max(least.Y1, p.Y))
		}
	}
	if ok != some || geom.Meets(a, b) != some || !ok && m != (api.Rect{}) {
		t.Fatalf("of %v and %v Meet is %v, %v, Meets %v", a, b, m, ok, geom.Meets(a, b))
	}
	if h != least {
		t.Fatalf("of %v and %v Hull is %v, not %v", a, b, h, least)
	}
	if geom.In(a, b) != whole {
		t.Fatalf("In(%v, %v) is %v", a, b, !whole)
	}
}

func TestHullIsInWhateverHasBoth(t *testing.T) {
	rects := rectsOf(rc(0, 0, 2, 2))
	for _, a := range rects {
		for _, b := range rects {
			for _, c := range rects {
				if both := geom.In(a, c) && geom.In(b, c); both != geom.In(geom.Hull(a, b), c) {
					t.Fatalf("%v and %v are in %v: %v; their hull: %v", a, b, c, both, !both)
				}
			}
		}
	}
}

// P2.5

func TestCutArea(t *testing.T) {
	rects := append(rectsOf(rc(0, 0, 3, 3)), rc(0, 0, last, last), rc(0, 7, last, 7), rc(10, 0, 20, last))
	for _, r := range rects {
		for _, x := range []int{r.X0, (r.X0 + r.X1) / 2, r.X1 - 1} {
			if x < r.X0 || x >= r.X1 {
				continue
			}
			if geom.Area(rc(r.X0, r.Y0, x, r.Y1))+geom.Area(rc(x+1, r.Y0, r.X1, r.Y1)) != geom.Area(r) {
				t.Errorf("%v cut behind X %d", r, x)
			}
		}
		for _, y := range []int{r.Y0, (r.Y0 + r.Y1) / 2, r.Y1 - 1} {
			if y < r.Y0 || y >= r.Y1 {
				continue
			}
			if geom.Area(rc(r.X0, r.Y0, r.X1, y))+geom.Area(rc(r.X0, y+1, r.X1, r.Y1)) != geom.Area(r) {
				t.Errorf("%v cut behind Y %d", r, y)
			}
		}
	}
}

// P2.6

func TestDistByPoints(t *testing.T) {
	for _, at := range patches() {
		for _, r := range rectsOf(patch(at)) {
			for _, p := range append(pointsOf(patch(at)), goodPoints()...) {
				checkDist(t, r, p)
			}
		}
	}
}

// checkDist holds what is said of a rectangle and a point against all points of the rectangle.
func checkDist(t *testing.T, r api.Rect, p api.Point) {
	t.Helper()
	var near api.Point
	least := uint64(math.MaxUint64)
	for _, q := range pointsOf(r) {
		d := square(q.X-p.X) + square(q.Y-p.Y)
		if geom.Apart(q, p) != d {
			t.Fatalf("Apart(%v, %v) = %d, want %d", q, p, geom.Apart(q, p), d)
		}
		if d < least {
			near, least = q, d
		}
	}
	if got := geom.Dist(r, p); got != least || (got == 0) != inside(r, p) || geom.Has(r, p) != inside(r, p) {
		t.Fatalf("Dist(%v, %v) = %d, want %d; Has says %v", r, p, got, least, geom.Has(r, p))
	}
	if got := geom.Nearest(r, p); got != near {
		t.Fatalf("Nearest(%v, %v) = %v, want %v", r, p, got, near)
	}
}
