package region_test

import (
	"math/rand"
	"slices"
	"sync"
	"testing"

	"paravent/api"
	"paravent/geom"
	"paravent/region"
)

// P13.1

func TestExample(t *testing.T) {
	l := []api.Rect{rc(0, 0, 3, 3), rc(2, 2, 5, 5)}
	wantUnion(t, l, rc(0, 0, 3, 1), rc(0, 2, 5, 3), rc(2, 4, 5, 5))
	if n, e := region.Area(l); n != 28 || e != api.OK {
		t.Error(n, e)
	}
}

func TestUnion(t *testing.T) {
	grid := geom.Grid()
	for _, c := range []struct{ region, form []api.Rect }{
		{nil, nil},
		{[]api.Rect{}, nil},
		{[]api.Rect{{}}, []api.Rect{{}}},
		{[]api.Rect{grid}, []api.Rect{grid}},
		{[]api.Rect{rc(last, last, last, last)}, []api.Rect{rc(last, last, last, last)}},
		{[]api.Rect{rc(4, 5, 6, 7), rc(4, 5, 6, 7)}, []api.Rect{rc(4, 5, 6, 7)}},
		{[]api.Rect{grid, rc(4, 5, 6, 7)}, []api.Rect{grid}},
		// Points that follow one another are one run, rows with the same runs one band.
		{[]api.Rect{rc(3, 0, 5, 0), rc(0, 0, 2, 0)}, []api.Rect{rc(0, 0, 5, 0)}},
		{[]api.Rect{rc(0, 3, 0, 5), rc(0, 0, 0, 2)}, []api.Rect{rc(0, 0, 0, 5)}},
		{[]api.Rect{rc(0, 0, last, 9), rc(0, 10, last, last)}, []api.Rect{grid}},
		{[]api.Rect{rc(0, 0, 9, last), rc(10, 0, last, last)}, []api.Rect{grid}},
		// Those that don't are not.
		{[]api.Rect{rc(4, 0, 5, 0), rc(0, 0, 2, 0)}, []api.Rect{rc(0, 0, 2, 0), rc(4, 0, 5, 0)}},
		{[]api.Rect{rc(0, 4, 0, 5), rc(0, 0, 0, 2)}, []api.Rect{rc(0, 0, 0, 2), rc(0, 4, 0, 5)}},
		{[]api.Rect{rc(2, 2, 3, 3), rc(0, 0, 1, 1)}, []api.Rect{rc(0, 0, 1, 1), rc(2, 2, 3, 3)}},
		{[]api.Rect{rc(0, 2, 1, 3), rc(2, 0, 3, 1)}, []api.Rect{rc(2, 0, 3, 1), rc(0, 2, 1, 3)}},
		// A band has all the runs of its rows: what begins beside another rectangle cuts that one.
		{[]api.Rect{rc(0, 0, 1, 9), rc(5, 3, 6, 4)}, []api.Rect{rc(0, 0, 1, 2), rc(0, 3, 1, 4), rc(5, 3, 6, 4), rc(0, 5, 1, 9)}},
		{[]api.Rect{rc(0, 0, 1, 4), rc(5, 0, 6, 9)}, []api.Rect{rc(0, 0, 1, 4), rc(5, 0, 6, 4), rc(5, 5, 6, 9)}},
		// Where a rectangle ends and another one goes on, or lies in others, nothing is cut.
		{[]api.Rect{rc(0, 0, 1, 4), rc(5, 0, 6, 9), rc(0, 5, 1, 9)}, []api.Rect{rc(0, 0, 1, 9), rc(5, 0, 6, 9)}},
		{[]api.Rect{rc(0, 0, 9, 9), rc(2, 3, 4, 5), rc(3, 4, 9, 9)}, []api.Rect{rc(0, 0, 9, 9)}},
		// A cross, a ring, steps, two columns of which the one is over when the other begins.
		{[]api.Rect{rc(3, 0, 5, 8), rc(0, 3, 8, 5)}, []api.Rect{rc(3, 0, 5, 2), rc(0, 3, 8, 5), rc(3, 6, 5, 8)}},
		{[]api.Rect{rc(0, 0, 4, 0), rc(0, 4, 4, 4), rc(0, 0, 0, 4), rc(4, 0, 4, 4)}, []api.Rect{rc(0, 0, 4, 0), rc(0, 1, 0, 3), rc(4, 1, 4, 3), rc(0, 4, 4, 4)}},
		{[]api.Rect{rc(2, 2, 2, 2), rc(0, 0, 0, 0), rc(1, 1, 1, 1)}, []api.Rect{rc(0, 0, 0, 0), rc(1, 1, 1, 1), rc(2, 2, 2, 2)}},
		{[]api.Rect{rc(3, 4, 4, 6), rc(0, 0, 1, 3)}, []api.Rect{rc(0, 0, 1, 3), rc(3, 4, 4, 6)}},
		// Runs of the same beginnings or ends, or as many of them, are not the same.
		{[]api.Rect{rc(0, 0, 4, 0), rc(0, 1, 5, 1), rc(1, 2, 5, 2)}, []api.Rect{rc(0, 0, 4, 0), rc(0, 1, 5, 1), rc(1, 2, 5, 2)}},
		{[]api.Rect{rc(0, 0, 1, 0), rc(0, 1, 1, 1), rc(4, 1, 5, 1), rc(0, 2, 1, 2)}, []api.Rect{rc(0, 0, 1, 0), rc(0, 1, 1, 1), rc(4, 1, 5, 1), rc(0, 2, 1, 2)}},
		{[]api.Rect{rc(0, 0, 0, 0), rc(last, 0, last, 0), rc(0, last, 0, last), rc(last, last, last, last)},
			[]api.Rect{rc(0, 0, 0, 0), rc(last, 0, last, 0), rc(0, last, 0, last), rc(last, last, last, last)}},
	} {
		wantUnion(t, c.region, c.form...)
		slices.Reverse(c.region)
		wantUnion(t, c.region, c.form...)
	}
}

func TestMinusAndMeet(t *testing.T) {
	grid, big, hole := geom.Grid(), rc(0, 0, 9, 9), rc(3, 3, 5, 5)
	for _, c := range []struct{ a, b, minus, meet []api.Rect }{
		{nil, nil, nil, nil},
		{[]api.Rect{big}, nil, []api.Rect{big}, nil},
		{nil, []api.Rect{big}, nil, nil},
		{[]api.Rect{big}, []api.Rect{big}, nil, []api.Rect{big}},
		{[]api.Rect{big}, []api.Rect{hole}, []api.Rect{rc(0, 0, 9, 2), rc(0, 3, 2, 5), rc(6, 3, 9, 5), rc(0, 6, 9, 9)}, []api.Rect{hole}},
		{[]api.Rect{hole}, []api.Rect{big}, nil, []api.Rect{hole}},
		{[]api.Rect{grid}, []api.Rect{{}}, []api.Rect{rc(1, 0, last, 0), rc(0, 1, last, last)}, []api.Rect{{}}},
		{[]api.Rect{grid}, []api.Rect{rc(last, last, last, last)}, []api.Rect{rc(0, 0, last, last-1), rc(0, last, last-1, last)}, []api.Rect{rc(last, last, last, last)}},
		{[]api.Rect{rc(0, 0, 1, 1)}, []api.Rect{rc(2, 0, 3, 1)}, []api.Rect{rc(0, 0, 1, 1)}, nil},
		{[]api.Rect{rc(0, 0, 1, 1)}, []api.Rect{rc(0, 2, 1, 3)}, []api.Rect{rc(0, 0, 1, 1)}, nil},
		{[]api.Rect{rc(0, 0, 4, 4), rc(4, 4, 8, 8)}, []api.Rect{rc(4, 0, 8, 4), rc(0, 4, 4, 8)}, []api.Rect{rc(0, 0, 3, 3), rc(5, 5, 8, 8)}, []api.Rect{rc(4, 0, 4, 3), rc(0, 4, 8, 4), rc(4, 5, 4, 8)}},
		// What is taken away by one rectangle and by many is the same.
		{[]api.Rect{big}, []api.Rect{rc(0, 0, 4, 9), rc(5, 0, 9, 4), rc(5, 5, 9, 9)}, nil, []api.Rect{big}},
		// Overlapping ones count once.
		{[]api.Rect{big, big, hole}, []api.Rect{hole, rc(4, 4, 5, 5)}, []api.Rect{rc(0, 0, 9, 2), rc(0, 3, 2, 5), rc(6, 3, 9, 5), rc(0, 6, 9, 9)}, []api.Rect{hole}},
	} {
		minus, e := region.Minus(c.a, c.b)
		wantForm(t, "Minus", minus, e, c.minus)
		meet, e := region.Meet(c.a, c.b)
		wantForm(t, "Meet", meet, e, c.meet)
		meet, e = region.Meet(c.b, c.a)
		wantForm(t, "Meet, the other way round", meet, e, c.meet)
	}
}

func TestArea(t *testing.T) {
	for _, c := range []struct {
		region []api.Rect
		area   uint64
	}{
		{nil, 0}, {[]api.Rect{}, 0}, {[]api.Rect{{}}, 1}, {[]api.Rect{{}, {}}, 1}, {[]api.Rect{geom.Grid()}, 1 << 32}, {[]api.Rect{geom.Grid(), {}, geom.Grid()}, 1 << 32},
		{[]api.Rect{rc(1, 0, last, last)}, 1<<32 - 1<<16}, {[]api.Rect{rc(0, 0, last, 0), rc(0, 0, 0, last)}, 2*api.Side - 1},
		{[]api.Rect{rc(0, 0, 9, 9), rc(3, 3, 5, 5)}, 100}, {[]api.Rect{rc(0, 0, 9, 9), rc(10, 0, 10, 0)}, 101},
	} {
		if n, e := region.Area(c.region); n != c.area || e != api.OK {
			t.Errorf("Area(%v) = %v, %v, want %v", c.region, n, e, c.area)
		}
	}
}

// refused tells whether each call that can fail answers an error, and nothing beside it.
func refused(t *testing.T, a, b []api.Rect, both bool, want api.Errno) {
	t.Helper()
	if l, e := region.Minus(a, b); len(l) != 0 || e != want {
		t.Errorf("Minus: %v, %v, want %v", l, e, want)
	}
	if l, e := region.Meet(a, b); len(l) != 0 || e != want {
		t.Errorf("Meet: %v, %v, want %v", l, e, want)
	}
	if both {
		return
	}
	if l, e := region.Union(a); len(l) != 0 || e != want {
		t.Errorf("Union: %v, %v, want %v", l, e, want)
	}
	if n, e := region.Area(a); n != 0 || e != want {
		t.Errorf("Area: %v, %v, want %v", n, e, want)
	}
}

func TestWhatIsNoRegion(t *testing.T) {
	fine := []api.Rect{rc(0, 0, 3, 3)}
	long := make([]api.Rect, api.MaxRegion+1)
	refused(t, long, fine, false, api.ErrLong)
	refused(t, fine, long, true, api.ErrLong)
	refused(t, make([]api.Rect, 100000), nil, false, api.ErrLong)
	for _, b := range badRects() {
		for _, bad := range [][]api.Rect{{b}, {rc(0, 0, 3, 3), b}, {b, rc(0, 0, 3, 3)}, append(make([]api.Rect, api.MaxRegion-1), b)} {
			refused(t, bad, fine, false, api.ErrArg)
			refused(t, bad, nil, false, api.ErrArg)
			refused(t, fine, bad, true, api.ErrArg)
			refused(t, nil, bad, true, api.ErrArg)
			refused(t, bad, bad, false, api.ErrArg)
			// That one is too long comes first, in whichever of both.
			refused(t, long, bad, false, api.ErrLong)
			refused(t, bad, long, true, api.ErrLong)
		}
		refused(t, append(slices.Clone(long), b), fine, false, api.ErrLong)
		refused(t, append([]api.Rect{b}, long...), fine, false, api.ErrLong)
	}
}

// lattice are as many columns and as many rows, each by itself.
func lattice(n int) (columns, rows []api.Rect) {
	for i := range n {
		columns = append(columns, rc(4*i, 0, 4*i+1, last))
		rows = append(rows, rc(0, 4*i+2, last, 4*i+2))
	}
	return columns, rows
}

func TestRegionsOfMany(t *testing.T) {
	columns, rows := lattice(api.MaxRegion)
	wantUnion(t, columns, columns...)
	wantUnion(t, rows, rows...)
	// What both have: each row cuts each column. This is more than a region may have, and it is no region.
	cut, e := region.Meet(rows, columns)
	if e != api.OK || len(cut) != api.MaxRegion*api.MaxRegion || cut[0] != rc(0, 2, 1, 2) || cut[len(cut)-1] != rc(1020, 1022, 1021, 1022) || cut[257] != rc(4, 6, 5, 6) {
		t.Errorf("%v: of %d rows and as many columns there are %d", e, len(rows), len(cut))
	}
	refused(t, cut, nil, false, api.ErrLong)
	left, e := region.Minus(columns, rows)
	if e != api.OK || len(left) != (api.MaxRegion+1)*api.MaxRegion || left[0] != rc(0, 0, 1, 1) || left[256] != rc(0, 3, 1, 5) {
		t.Errorf("%v: %d are left", e, len(left))
	}
	// Half of each, together: 128 rows, and 128 columns in each of the 129 bands beside them.
	all := slices.Concat(columns[:128], rows[:128])
	form, e := region.Union(all)
	if e != api.OK || len(form) != 128+129*128 || form[0] != rc(0, 0, 1, 1) || form[128] != rc(0, 2, last, 2) || form[129] != rc(0, 3, 1, 5) {
		t.Errorf("%v: the form has %d", e, len(form))
	}
	if n, e := region.Area(all); e != api.OK || n != 128*api.Side+256*(api.Side-128) {
		t.Error(n, e)
	}
}

// TestAgainstAModel holds forms and areas against the document's words.
func TestAgainstAModel(t *testing.T) {
	r := rand.New(rand.NewSource(1))
	most, bands := 0, 0
	for range 4000 {
		a, b, g := someRegion(r), someRegion(r), someGlass(r)
		pa, pb := plotted(a), plotted(b)
		ga, gb := g.rects(a), g.rects(b)
		want := g.rects(formOf(pa))
		wantUnion(t, ga, want...)
		if most = max(most, len(want)); len(want) > 1 && want[0].Y0 < want[len(want)-1].Y0 {
			bands++
		}
		minus, e := region.Minus(ga, gb)
		wantForm(t, "Minus", minus, e, g.rects(formOf(both(pa, pb, but))))
		meet, e := region.Meet(ga, gb)
		wantForm(t, "Meet", meet, e, g.rects(formOf(both(pa, pb, and))))
		if n, e := region.Area(ga); n != g.area(pa) || e != api.OK {
			t.Errorf("Area(%v) = %v, %v, want %v", ga, n, e, g.area(pa))
		}
		if t.Failed() {
			t.Fatal("of", ga, gb)
		}
	}
	if most < 15 || bands < 2000 {
		t.Error("too plain:", most, bands)
	}
}

// P13.2

func TestHas(t *testing.T) {
	l := []api.Rect{rc(2, 3, 4, 5), rc(last-1, 3, last, 3)}
	for _, p := range []api.Point{pt(2, 3), pt(4, 5), pt(3, 4), pt(2, 5), pt(4, 3), pt(last, 3), pt(last-1, 3)} {
		if !region.Has(l, p) {
			t.Error("it has not", p)
		}
	}
	for _, p := range []api.Point{pt(1, 3), pt(2, 2), pt(5, 5), pt(4, 6), pt(5, 3), pt(last-2, 3), pt(last, 4), pt(0, 0), pt(api.Side, 3), pt(3, -1), pt(-1, -1), pt(-1<<63, 1<<63-1)} {
		if region.Has(l, p) || region.Has(nil, p) {
			t.Error("it has", p)
		}
	}
	grid := []api.Rect{geom.Grid()}
	for _, p := range []api.Point{pt(-1, 0), pt(0, -1), pt(api.Side, 0), pt(0, api.Side)} {
		if region.Has(grid, p) {
			t.Error("the grid has", p)
		}
	}
	if !region.Has(grid, pt(0, 0)) || !region.Has(grid, pt(last, last)) {
		t.Error("the grid has not its corners")
	}
}

func TestCovers(t *testing.T) {
	l := []api.Rect{rc(0, 0, 3, 3), rc(4, 0, 7, 3), rc(2, 4, 5, 9)}
	for _, r := range []api.Rect{{}, rc(0, 0, 7, 3), rc(2, 0, 5, 9), rc(3, 1, 4, 7), rc(0, 0, 3, 3), rc(7, 3, 7, 3), rc(5, 9, 5, 9)} {
		if !region.Covers(l, r) {
			t.Error("it covers not", r)
		}
	}
	for _, r := range []api.Rect{rc(0, 0, 8, 3), rc(1, 0, 5, 9), rc(2, 0, 6, 4), rc(0, 0, 7, 4), rc(8, 0, 8, 0), rc(0, 0, 9, 9), rc(2, 4, 5, 10), geom.Grid()} {
		if region.Covers(l, r) || region.Covers(nil, r) {
			t.Error("it covers", r)
		}
	}
	grid := []api.Rect{geom.Grid()}
	for _, r := range badRects() {
		if region.Covers(l, r) || region.Covers(grid, r) || region.Covers(nil, r) {
			t.Error("it covers what may not be:", r)
		}
	}
	if !region.Covers(grid, geom.Grid()) || region.Covers([]api.Rect{rc(0, 0, last, last-1), rc(0, last, last-1, last)}, geom.Grid()) {
		t.Error("the grid is covered by itself, and not without its last point")
	}
}

func TestSame(t *testing.T) {
	for _, c := range []struct {
		a, b []api.Rect
		same bool
	}{
		{nil, nil, true}, {nil, []api.Rect{}, true}, {nil, []api.Rect{{}}, false},
		{[]api.Rect{{}}, []api.Rect{{}, {}}, true}, {[]api.Rect{{}}, []api.Rect{rc(1, 0, 1, 0)}, false},
		{[]api.Rect{rc(0, 0, 3, 3)}, []api.Rect{rc(0, 0, 1, 3), rc(2, 0, 3, 3)}, true},
		{[]api.Rect{rc(0, 0, 3, 3)}, []api.Rect{rc(0, 2, 3, 3), rc(0, 0, 3, 2)}, true},
		{[]api.Rect{rc(0, 0, 3, 3)}, []api.Rect{rc(0, 0, 1, 3), rc(2, 0, 3, 2)}, false},
		{[]api.Rect{rc(0, 0, 3, 3)}, []api.Rect{rc(0, 0, 3, 3), rc(4, 3, 4, 3)}, false},
		{[]api.Rect{rc(0, 0, 1, 1), rc(2, 2, 3, 3)}, []api.Rect{rc(2, 2, 3, 3), rc(0, 0, 1, 1)}, true},
		{[]api.Rect{rc(0, 0, 1, 1), rc(2, 2, 3, 3)}, []api.Rect{rc(0, 0, 3, 3)}, false},
		{[]api.Rect{geom.Grid()}, []api.Rect{rc(0, 0, last, 7), rc(0, 8, last, last)}, true},
		{[]api.Rect{geom.Grid()}, []api.Rect{rc(0, 0, last, 7), rc(0, 9, last, last)}, false},
	} {
		if region.Same(c.a, c.b) != c.same || region.Same(c.b, c.a) != c.same {
			t.Errorf("whether %v and %v are the same is not %v", c.a, c.b, c.same)
		}
	}
}

func TestOfNoRegion(t *testing.T) {
	grid := []api.Rect{geom.Grid()}
	bad := [][]api.Rect{slices.Repeat(grid, api.MaxRegion+1)}
	for _, b := range badRects() {
		bad = append(bad, []api.Rect{b}, []api.Rect{geom.Grid(), b}, []api.Rect{b, geom.Grid()}, append(slices.Repeat(grid, api.MaxRegion), b))
	}
	for _, l := range bad {
		if region.Has(l, pt(0, 0)) || region.Has(l, pt(5, 9)) || region.Covers(l, api.Rect{}) || region.Covers(l, geom.Grid()) {
			t.Error("it has or covers something, of", len(l))
		}
		if region.Same(l, l) || region.Same(l, grid) || region.Same(grid, l) || region.Same(l, nil) || region.Same(nil, l) {
			t.Error("it is the same as something, of", len(l))
		}
	}
	full := slices.Repeat(grid, api.MaxRegion)
	if !region.Has(full, pt(0, 0)) || !region.Covers(full, geom.Grid()) || !region.Same(full, grid) || !region.Same(grid, full) {
		t.Error("as many as may be are none")
	}
}

// TestPointsAgainstAModel holds what regions have and cover, and which are the same, against the document's words.
func TestPointsAgainstAModel(t *testing.T) {
	r := rand.New(rand.NewSource(2))
	covered, same := 0, 0
	for range 1500 {
		a, g := someRegion(r), someGlass(r)
		p := plotted(a)
		ga := g.rects(a)
		for y := range side {
			for x := range side {
				for _, at := range []api.Point{pt(g.x[x], g.y[y]), pt(g.x[x+1]-1, g.y[y+1]-1)} {
					if region.Has(ga, at) != p[y][x] {
						t.Fatalf("whether %v has %v is not %v", ga, at, p[y][x])
					}
				}
			}
		}
		for range 10 {
			b := someRect(r)
			if r.Intn(2) == 0 {
				b.X1, b.Y1 = min(b.X1, b.X0+1), b.Y0
			}
			want := both(plotted([]api.Rect{b}), p, but) == plot{}
			if region.Covers(ga, g.rect(b)) != want {
				t.Fatalf("whether %v covers %v is not %v", ga, g.rect(b), want)
			}
			if want {
				covered++
			}
		}
		b := formOf(p)
		if n := len(b); n > 0 && r.Intn(2) == 0 {
			b[r.Intn(n)] = someRect(r)
		}
		if got := region.Same(ga, g.rects(b)); got != (p == plotted(b)) {
			t.Fatalf("whether %v and %v are the same is not %v", ga, g.rects(b), got)
		} else if got {
			same++
		}
	}
	if covered < 800 || same < 500 || same > 1400 {
		t.Error("too plain:", covered, same)
	}
}

// P13.3

func TestForms(t *testing.T) {
	r := rand.New(rand.NewSource(3))
	for range 1500 {
		a, g := someRegion(r), someGlass(r)
		form, e := region.Union(g.rects(a))
		if e != api.OK {
			t.Fatal(e)
		}
		for i, b := range form {
			for _, c := range form[:i] {
				if geom.Meets(b, c) {
					t.Fatalf("%v and %v have points in common", b, c)
				}
			}
		}
		wantUnion(t, form, form...)
		if !region.Same(form, g.rects(a)) {
			t.Fatal("a region and its form are not the same:", g.rects(a), form)
		}
		// The same points, by other rectangles: in another order, some twice, some cut.
		other := g.rects(a)
		for _, b := range g.rects(a) {
			if at := b.X0 + r.Intn(b.X1-b.X0+1); at < b.X1 && r.Intn(2) == 0 {
				other = append(other, rc(b.X0, b.Y0, at, b.Y1), rc(at+1, b.Y0, b.X1, b.Y1))
				i := slices.Index(other, b)
				other = slices.Delete(other, i, i+1)
			}
		}
		r.Shuffle(len(other), func(i, j int) { other[i], other[j] = other[j], other[i] })
		wantUnion(t, other, form...)
		if t.Failed() {
			t.Fatal("of", g.rects(a))
		}
	}
}

// P13.4

func TestPointsOfMinusAndMeet(t *testing.T) {
	r := rand.New(rand.NewSource(4))
	for range 600 {
		g := someGlass(r)
		a, b := g.rects(someRegion(r)), g.rects(someRegion(r))
		minus, e := region.Minus(a, b)
		meet, f := region.Meet(a, b)
		if e != api.OK || f != api.OK {
			t.Fatal(e, f)
		}
		for range 60 {
			p := pt(g.x[r.Intn(side)], g.y[1+r.Intn(side)]-1)
			inA, inB := region.Has(a, p), region.Has(b, p)
			if region.Has(minus, p) != (inA && !inB) || region.Has(meet, p) != (inA && inB) {
				t.Fatalf("%v of %v and %v: %v, %v", p, a, b, region.Has(minus, p), region.Has(meet, p))
			}
		}
	}
}

// P13.5

func TestAreas(t *testing.T) {
	r := rand.New(rand.NewSource(5))
	area := func(l []api.Rect) uint64 {
		n, e := region.Area(l)
		if e != api.OK {
			t.Error(e)
		}
		return n
	}
	for range 1500 {
		g := someGlass(r)
		a, b := g.rects(someRegion(r)), g.rects(someRegion(r))
		meet, _ := region.Meet(a, b)
		minus, _ := region.Minus(a, b)
		if area(a)+area(b) != area(slices.Concat(a, b))+area(meet) || area(a) != area(minus)+area(meet) {
			t.Fatalf("of %v and %v: %v, %v, %v, %v", a, b, area(a), area(b), area(slices.Concat(a, b)), area(meet))
		}
	}
}

// Rules that hold everywhere

func TestWhatIsAnsweredIsNewMemory(t *testing.T) {
	a, b := []api.Rect{rc(0, 0, 3, 3), rc(2, 2, 5, 5)}, []api.Rect{rc(1, 1, 2, 9)}
	for _, ask := range []func() ([]api.Rect, api.Errno){
		func() ([]api.Rect, api.Errno) { return region.Union(a) },
		func() ([]api.Rect, api.Errno) { return region.Union(b) },
		func() ([]api.Rect, api.Errno) { return region.Minus(a, b) },
		func() ([]api.Rect, api.Errno) { return region.Meet(a, b) },
		func() ([]api.Rect, api.Errno) { return region.Minus(b, nil) },
		func() ([]api.Rect, api.Errno) { return region.Meet(b, b) },
	} {
		want, _ := ask()
		kept := slices.Clone(want)
		clear(want)
		if again, _ := ask(); !slices.Equal(again, kept) {
			t.Error("what is answered is shared:", again, kept)
		}
	}
	if !slices.Equal(a, []api.Rect{rc(0, 0, 3, 3), rc(2, 2, 5, 5)}) || !slices.Equal(b, []api.Rect{rc(1, 1, 2, 9)}) {
		t.Error("what was handed in has changed:", a, b)
	}
}

func TestWhatIsHandedInIsNotChanged(t *testing.T) {
	r := rand.New(rand.NewSource(6))
	for range 500 {
		a, b := someRegion(r), someRegion(r)
		ka, kb := slices.Clone(a), slices.Clone(b)
		region.Union(a)
		region.Minus(a, b)
		region.Meet(a, b)
		region.Area(a)
		region.Has(a, pt(3, 3))
		region.Covers(a, rc(1, 1, 3, 3))
		region.Same(a, b)
		if !slices.Equal(a, ka) || !slices.Equal(b, kb) {
			t.Fatal(a, b, "were", ka, kb)
		}
	}
}

func TestAskedByMany(t *testing.T) {
	a, b := []api.Rect{rc(0, 0, 3, 3), rc(2, 2, 5, 5)}, []api.Rect{rc(1, 1, 2, 9)}
	var all sync.WaitGroup
	for range 4 {
		all.Go(func() {
			for range 200 {
				wantUnion(t, a, rc(0, 0, 3, 1), rc(0, 2, 5, 3), rc(2, 4, 5, 5))
				meet, e := region.Meet(a, b)
				wantForm(t, "Meet", meet, e, []api.Rect{rc(1, 1, 2, 3), rc(2, 4, 2, 5)})
				if region.Same(a, b) || !region.Covers(a, rc(0, 3, 5, 3)) {
					t.Error("not as alone")
				}
			}
		})
	}
	all.Wait()
}

// P1

// rectsOf makes rectangles of bytes, four each, of which some are near to the grid's sides and beyond.
func rectsOf(b []byte) []api.Rect {
	number := func(n byte) int {
		switch {
		case n < 100:
			return int(n)
		case n < 200:
			return last + 99 - int(n)
		}
		return int(n-200) * 1201
	}
	var l []api.Rect
	for ; len(b) >= 4; b = b[4:] {
		l = append(l, rc(number(b[0]), number(b[1]), number(b[2]), number(b[3])))
	}
	return l
}

func FuzzRegions(f *testing.F) {
	f.Add([]byte{0, 0, 3, 3, 2, 2, 5, 5}, []byte{1, 1, 2, 9}, 2, 2)
	f.Add([]byte{0, 0, 100, 100, 200, 201, 202, 203}, []byte{200, 9, 220, 11, 230, 0, 99, 100}, 300, 65535)
	f.Fuzz(func(t *testing.T, one, two []byte, x, y int) {
		a, b, p := rectsOf(one), rectsOf(two), pt(x, y)
		form, e := region.Union(a)
		minus, f := region.Minus(a, b)
		meet, g := region.Meet(a, b)
		area, h := region.Area(a)
		if e != h || f != g || e != api.OK && f == api.OK {
			t.Error(e, f, g, h)
		}
		if e != api.OK && (len(form) != 0 || area != 0 || region.Has(a, p) || region.Same(a, a)) || f != api.OK && len(minus)+len(meet) != 0 {
			t.Error("there is something beside an error:", form, minus, meet, area)
		}
		if f != api.OK || len(form) > api.MaxRegion || len(minus) > api.MaxRegion || len(meet) > api.MaxRegion {
			return
		}
		if region.Has(form, p) != region.Has(a, p) || !region.Same(form, a) {
			t.Error(a, "has the form", form)
		}
		if region.Has(minus, p) != (region.Has(a, p) && !region.Has(b, p)) || region.Has(meet, p) != (region.Has(a, p) && region.Has(b, p)) {
			t.Error("of", a, "and", b, minus, meet)
		}
		left, _ := region.Area(minus)
		common, _ := region.Area(meet)
		if left+common != area {
			t.Error("areas:", area, left, common)
		}
	})
}
