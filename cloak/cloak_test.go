package cloak_test

import (
	"math"
	"math/rand"
	"sync"
	"testing"

	"paravent/api"
	"paravent/cloak"
	"paravent/pyramid"
)

const last = api.Side - 1

func pt(x, y int) api.Point { return api.Point{X: x, Y: y} }

func rc(x0, y0, x1, y1 int) api.Rect { return api.Rect{X0: x0, Y0: y0, X1: x1, Y1: y1} }

func cl(level, x, y int) api.Cell { return api.Cell{Level: level, X: x, Y: y} }

func pf(k int, area uint64) api.Profile { return api.Profile{K: k, Area: area} }

func badNumbers() []int {
	return []int{-1, -2, -64, math.MinInt, math.MinInt + 1, math.MaxInt, math.MaxInt - 1, math.MinInt32, 1 << 32}
}

func badPoints() []api.Point {
	l := []api.Point{pt(api.Side, 0), pt(0, api.Side), pt(api.Side, api.Side), pt(last, api.Side)}
	for _, n := range badNumbers() {
		l = append(l, pt(n, 5), pt(5, n), pt(n, n))
	}
	return l
}

func badProfiles() []api.Profile {
	l := []api.Profile{{}, pf(0, 1), pf(0, math.MaxUint64), pf(65536, 0), pf(65536, math.MaxUint64)}
	for _, n := range badNumbers() {
		l = append(l, pf(n, 0), pf(n, 9))
	}
	return l
}

func has(r api.Rect, p api.Point) bool {
	return p.X >= r.X0 && p.X <= r.X1 && p.Y >= r.Y0 && p.Y <= r.Y1
}

func area(r api.Rect) uint64 { return uint64(r.X1-r.X0+1) * uint64(r.Y1-r.Y0+1) }

// boxOf is the box of the cell of a level, of such numbers.
func boxOf(level, x, y int) api.Rect {
	side := api.Side >> level
	return rc(x*side, y*side, x*side+side-1, y*side+side-1)
}

// around is the least rectangle that has two.
func around(a, b api.Rect) api.Rect {
	return rc(min(a.X0, b.X0), min(a.Y0, b.Y0), max(a.X1, b.X1), max(a.Y1, b.Y1))
}

// A model is the document's words: points, and cloaks of them.

type model []api.Point

func (m model) count(r api.Rect) int {
	n := 0
	for _, p := range m {
		if has(r, p) {
			n++
		}
	}
	return n
}

func (m model) does(r api.Rect, f api.Profile) bool {
	return m.count(r) >= f.K && area(r) >= f.Area
}

// at is the cloak at the cell of a level that has a point.
func (m model) at(p api.Point, level int, f api.Profile) (cloak.Cloak, bool) {
	c := cl(level, p.X/(api.Side>>level), p.Y/(api.Side>>level))
	own := boxOf(level, c.X, c.Y)
	tell := func(kind int, r api.Rect) (cloak.Cloak, bool) {
		return cloak.Cloak{Box: r, Cell: c, Kind: kind, Count: m.count(r)}, true
	}
	if m.does(own, f) {
		return tell(cloak.Own, own)
	}
	if level == 0 {
		return cloak.Cloak{}, false
	}
	// The other child of the parent with the same Y, and the one with the same X.
	beside := around(own, boxOf(level, c.X/2*2+1-c.X%2, c.Y))
	over := around(own, boxOf(level, c.X, c.Y/2*2+1-c.Y%2))
	switch one, other := m.does(beside, f), m.does(over, f); {
	case one && (!other || m.count(beside) <= m.count(over)):
		return tell(cloak.Beside, beside)
	case other:
		return tell(cloak.Over, over)
	}
	return cloak.Cloak{}, false
}

func (m model) find(p api.Point, f api.Profile) (cloak.Cloak, api.Errno) {
	for level := 16; level >= 0; level-- {
		if k, ok := m.at(p, level, f); ok {
			return k, api.OK
		}
	}
	return cloak.Cloak{}, api.ErrNone
}

func made(t *testing.T, l ...api.Point) *pyramid.Pyramid {
	t.Helper()
	y := pyramid.New()
	for _, p := range l {
		if !y.Add(p) {
			t.Fatal("not added:", p)
		}
	}
	return y
}

func wantFound(t *testing.T, y *pyramid.Pyramid, p api.Point, f api.Profile, want cloak.Cloak) {
	t.Helper()
	if k, e := cloak.Find(y, p, f); k != want || e != api.OK {
		t.Fatalf("Find(%v, %v) is %v, %d, want %v", p, f, k, e, want)
	}
}

func wantError(t *testing.T, y *pyramid.Pyramid, p api.Point, f api.Profile, want api.Errno) {
	t.Helper()
	if k, e := cloak.Find(y, p, f); k != (cloak.Cloak{}) || e != want {
		t.Fatalf("Find(%v, %v) is %v, %d, want the error %d", p, f, k, e, want)
	}
}

// spread is a point that stands alone, in a crowd, about the midst, or at an edge.
func spread(r *rand.Rand) api.Point {
	switch r.Intn(6) {
	case 0:
		return pt(r.Intn(api.Side), r.Intn(api.Side))
	case 1:
		return pt(100+r.Intn(8), 200+r.Intn(8))
	case 2:
		return pt(32766+r.Intn(4), 32766+r.Intn(4))
	case 3:
		return pt(r.Intn(2)*last, r.Intn(2)*last)
	case 4:
		return pt(1000+r.Intn(300), 2000+r.Intn(300))
	}
	return pt(7, 7)
}

func somePoints(r *rand.Rand, n int) []api.Point {
	var l []api.Point
	for range n {
		l = append(l, spread(r))
	}
	return l
}

// someProfile is of a few or of many points, of no area, of one that a cell or a pair has, or of one beside that.
func someProfile(r *rand.Rand, n int) api.Profile {
	k := 1 + r.Intn(4)
	if r.Intn(2) == 0 {
		k = 1 + r.Intn(n+2)
	}
	if r.Intn(3) == 0 {
		return pf(k, 0)
	}
	return pf(k, uint64(1)<<r.Intn(34)+uint64(r.Intn(3))-1)
}

// P9.1

func TestRight(t *testing.T) {
	for _, k := range []int{1, 2, 3, 100, 65534, 65535} {
		for _, area := range []uint64{0, 1, 2, 1 << 32, 1<<32 + 1, math.MaxUint64} {
			if !cloak.Right(pf(k, area)) {
				t.Errorf("Right(%d, %d) is false", k, area)
			}
		}
	}
	for _, f := range badProfiles() {
		if cloak.Right(f) {
			t.Errorf("Right(%v) is true", f)
		}
	}
}

func TestDoes(t *testing.T) {
	for _, c := range []struct {
		f     api.Profile
		count int
		area  uint64
		want  bool
	}{
		{pf(2, 3), 2, 3, true},
		{pf(2, 3), 3, 4, true},
		{pf(2, 3), 1, 3, false},
		{pf(2, 3), 2, 2, false},
		{pf(2, 3), 3, 2, false},
		{pf(2, 3), 1, 4, false},
		{pf(2, 3), 0, 0, false},
		{pf(1, 0), 1, 0, true},
		{pf(1, 0), 0, 1 << 32, false},
		{pf(1, 0), -1, 1, false},
		{pf(1, 0), math.MinInt, 1, false},
		{pf(65535, 1<<32), 65535, 1 << 32, true},
		{pf(65535, 1<<32), 65534, 1 << 32, false},
		{pf(65535, 1<<32), 65535, 1<<32 - 1, false},
		{pf(1, 1<<32+1), math.MaxInt, 1 << 32, false},
		{pf(1, math.MaxUint64), 1, math.MaxUint64, true},
		{pf(1, math.MaxUint64), 1, math.MaxUint64 - 1, false},
	} {
		if got := cloak.Does(c.f, c.count, c.area); got != c.want {
			t.Errorf("Does(%v, %d, %d) is %v", c.f, c.count, c.area, got)
		}
	}
	for _, f := range badProfiles() {
		for _, count := range append(badNumbers(), 0, 1, 65535, 65536, f.K) {
			if cloak.Does(f, count, math.MaxUint64) {
				t.Errorf("Does(%v, %d) is true", f, count)
			}
		}
	}
}

// P9.2

func TestErrors(t *testing.T) {
	y := made(t, pt(5, 9), pt(6, 9))
	for _, p := range append(badPoints(), pt(5, 9), pt(0, 0)) {
		for _, f := range append(badProfiles(), pf(1, 0), pf(9, 0), pf(1, math.MaxUint64)) {
			wantError(t, nil, p, f, api.ErrNil) // ahead of all others
		}
	}
	for _, p := range badPoints() {
		for _, f := range append(badProfiles(), pf(1, 0), pf(9, 0)) {
			wantError(t, y, p, f, api.ErrArg)
			wantError(t, made(t), p, f, api.ErrArg)
		}
	}
	for _, f := range badProfiles() {
		wantError(t, y, pt(5, 9), f, api.ErrArg)
		wantError(t, made(t), pt(5, 9), f, api.ErrArg) // ahead of there being none
	}
	for _, f := range []api.Profile{pf(3, 0), pf(65535, 0), pf(1, 1<<32+1), pf(2, math.MaxUint64), pf(3, 1<<32)} {
		wantError(t, y, pt(5, 9), f, api.ErrNone)
	}
	wantError(t, made(t), pt(5, 9), pf(1, 0), api.ErrNone)
	wantError(t, &pyramid.Pyramid{}, pt(5, 9), pf(1, 0), api.ErrNone)
}

func TestExample(t *testing.T) {
	y := made(t, pt(0, 0), pt(1, 0), pt(0, 1), pt(0, 1))
	wantFound(t, y, pt(0, 0), pf(2, 2), cloak.Cloak{Box: rc(0, 0, 1, 0), Cell: cl(16, 0, 0), Kind: cloak.Beside, Count: 2})
}

func TestFind(t *testing.T) {
	grid, left, below := rc(0, 0, last, last), rc(0, 0, 32767, last), rc(0, 0, last, 32767)
	for _, c := range []struct {
		why    string
		points []api.Point
		p      api.Point
		f      api.Profile
		want   cloak.Cloak
	}{
		{"the point itself", []api.Point{pt(5, 9)}, pt(5, 9), pf(1, 0),
			cloak.Cloak{Box: rc(5, 9, 5, 9), Cell: cl(16, 5, 9), Count: 1}},
		{"so many at one point", []api.Point{pt(5, 9), pt(5, 9), pt(5, 9)}, pt(5, 9), pf(3, 1),
			cloak.Cloak{Box: rc(5, 9, 5, 9), Cell: cl(16, 5, 9), Count: 3}},
		{"the box, ahead of pairs with more", []api.Point{pt(5, 9), pt(4, 9), pt(5, 8)}, pt(5, 9), pf(1, 1),
			cloak.Cloak{Box: rc(5, 9, 5, 9), Cell: cl(16, 5, 9), Count: 1}},
		{"of two that have the same, the pair beside", []api.Point{pt(5, 9), pt(4, 9), pt(5, 8)}, pt(5, 9), pf(2, 0),
			cloak.Cloak{Box: rc(4, 9, 5, 9), Cell: cl(16, 5, 9), Kind: cloak.Beside, Count: 2}},
		{"the pair over, that has less", []api.Point{pt(5, 9), pt(4, 9), pt(4, 9), pt(5, 8)}, pt(5, 9), pf(2, 0),
			cloak.Cloak{Box: rc(5, 8, 5, 9), Cell: cl(16, 5, 9), Kind: cloak.Over, Count: 2}},
		{"the pair over alone does", []api.Point{pt(5, 9), pt(5, 8)}, pt(5, 9), pf(2, 0),
			cloak.Cloak{Box: rc(5, 8, 5, 9), Cell: cl(16, 5, 9), Kind: cloak.Over, Count: 2}},
		{"the pair over has less, and does not do", []api.Point{pt(5, 9), pt(4, 9), pt(4, 9), pt(5, 8)}, pt(5, 9), pf(3, 0),
			cloak.Cloak{Box: rc(4, 9, 5, 9), Cell: cl(16, 5, 9), Kind: cloak.Beside, Count: 3}},
		{"the pair beside has less, and does not do", []api.Point{pt(5, 9), pt(4, 9), pt(5, 8), pt(5, 8)}, pt(5, 9), pf(3, 0),
			cloak.Cloak{Box: rc(5, 8, 5, 9), Cell: cl(16, 5, 9), Kind: cloak.Over, Count: 3}},
		{"a pair's area, though the box has enough points", []api.Point{pt(5, 9), pt(5, 9)}, pt(5, 9), pf(2, 2),
			cloak.Cloak{Box: rc(4, 9, 5, 9), Cell: cl(16, 5, 9), Kind: cloak.Beside, Count: 2}},
		{"no pair's area does: a level further up", []api.Point{pt(5, 9), pt(5, 9)}, pt(5, 9), pf(2, 3),
			cloak.Cloak{Box: rc(4, 8, 5, 9), Cell: cl(15, 2, 4), Count: 2}},
		{"no one stands beside or over: a level further up", []api.Point{pt(5, 9), pt(4, 8)}, pt(5, 9), pf(2, 1),
			cloak.Cloak{Box: rc(4, 8, 5, 9), Cell: cl(15, 2, 4), Count: 2}},
		{"next to it, but of another cell", []api.Point{pt(5, 9), pt(6, 9)}, pt(5, 9), pf(2, 1),
			cloak.Cloak{Box: rc(4, 8, 7, 9), Cell: cl(15, 2, 4), Kind: cloak.Beside, Count: 2}},
		{"next to it, the other way", []api.Point{pt(5, 9), pt(5, 10)}, pt(5, 9), pf(2, 1),
			cloak.Cloak{Box: rc(4, 8, 5, 11), Cell: cl(15, 2, 4), Kind: cloak.Over, Count: 2}},
		{"half the grid", []api.Point{pt(0, 0), pt(last, 0)}, pt(0, 0), pf(2, 1<<31),
			cloak.Cloak{Box: below, Cell: cl(1, 0, 0), Kind: cloak.Beside, Count: 2}},
		{"the other half", []api.Point{pt(0, 0), pt(0, last), pt(last, last)}, pt(0, 0), pf(2, 1<<31),
			cloak.Cloak{Box: left, Cell: cl(1, 0, 0), Kind: cloak.Over, Count: 2}},
		{"the whole grid, of all points", []api.Point{pt(0, 0), pt(last, last)}, pt(last, last), pf(2, 0),
			cloak.Cloak{Box: grid, Cell: cl(0, 0, 0), Count: 2}},
		{"the whole grid, of all area", []api.Point{pt(0, 0), pt(0, 0)}, pt(0, 0), pf(1, 1<<31+1),
			cloak.Cloak{Box: grid, Cell: cl(0, 0, 0), Count: 2}},
		{"just the grid's area", []api.Point{pt(7, 7)}, pt(7, 7), pf(1, 1<<32),
			cloak.Cloak{Box: grid, Cell: cl(0, 0, 0), Count: 1}},
		{"a place where no one stands", []api.Point{pt(4, 9)}, pt(5, 9), pf(1, 0),
			cloak.Cloak{Box: rc(4, 9, 5, 9), Cell: cl(16, 5, 9), Kind: cloak.Beside, Count: 1}},
		{"a place far from all", []api.Point{pt(0, 0)}, pt(last, last), pf(1, 0),
			cloak.Cloak{Box: grid, Cell: cl(0, 0, 0), Count: 1}},
	} {
		y := made(t, c.points...)
		if k, e := cloak.Find(y, c.p, c.f); k != c.want || e != api.OK {
			t.Errorf("%s: %v, %d, want %v", c.why, k, e, c.want)
		}
		if k, e := model(c.points).find(c.p, c.f); k != c.want || e != api.OK {
			t.Errorf("%s: the model has %v, %d, want %v", c.why, k, e, c.want)
		}
	}
}

func TestTheGreatestK(t *testing.T) {
	y := made(t)
	for range api.MaxK - 1 {
		y.Add(pt(5, 9))
	}
	wantError(t, y, pt(5, 9), pf(api.MaxK, 0), api.ErrNone)
	y.Add(pt(4, 8))
	wantFound(t, y, pt(5, 9), pf(api.MaxK, 0), cloak.Cloak{Box: rc(4, 8, 5, 9), Cell: cl(15, 2, 4), Count: api.MaxK})
	wantFound(t, y, pt(5, 9), pf(api.MaxK-1, 0), cloak.Cloak{Box: rc(5, 9, 5, 9), Cell: cl(16, 5, 9), Count: api.MaxK - 1})
	wantError(t, y, pt(5, 9), pf(api.MaxK+1, 0), api.ErrArg)
}

// TestAgainstAModel holds what is found against the document's words; someone moves about meanwhile.
func TestAgainstAModel(t *testing.T) {
	r := rand.New(rand.NewSource(1))
	kinds := map[int]int{}
	for range 60 {
		m := model(somePoints(r, 1+r.Intn(60)))
		y := made(t, m...)
		for range 100 {
			p, f := m[r.Intn(len(m))], someProfile(r, len(m))
			if r.Intn(4) == 0 {
				p = spread(r)
			}
			want, e := m.find(p, f)
			if e == api.OK {
				kinds[want.Kind]++
				wantFound(t, y, p, f, want)
			} else {
				wantError(t, y, p, f, e)
			}
			i, to := r.Intn(len(m)), spread(r)
			y.Move(m[i], to)
			m[i] = to
		}
	}
	for _, kind := range []int{cloak.Own, cloak.Beside, cloak.Over} {
		if kinds[kind] < 50 {
			t.Errorf("the kind %d is found %d times", kind, kinds[kind])
		}
	}
}

// Find turns nothing, and the same pyramid may be asked by many at a time.
func TestAskedByMany(t *testing.T) {
	r := rand.New(rand.NewSource(2))
	m := model(somePoints(r, 60))
	y := made(t, m...)
	want, _ := m.find(m[0], pf(9, 9))
	total, cells := y.Total(), y.Cells()
	var all sync.WaitGroup
	for range 4 {
		all.Go(func() {
			for range 20 {
				if k, e := cloak.Find(y, m[0], pf(9, 9)); k != want || e != api.OK {
					t.Error(k, e)
				}
			}
		})
	}
	all.Wait()
	if y.Total() != total || y.Cells() != cells {
		t.Error("the pyramid has changed")
	}
}

// each goes through points, profiles and what is found for them.
func each(t *testing.T, seed int64, tell func(m model, p api.Point, f api.Profile, k cloak.Cloak, e api.Errno)) {
	t.Helper()
	r := rand.New(rand.NewSource(seed))
	for range 20 {
		m := model(somePoints(r, 1+r.Intn(50)))
		y := made(t, m...)
		for range 60 {
			p, f := spread(r), someProfile(r, len(m))
			k, e := cloak.Find(y, p, f)
			tell(m, p, f, k, e)
		}
	}
}

// P9.3

func TestACloakHasWhatIsAsked(t *testing.T) {
	each(t, 3, func(m model, p api.Point, f api.Profile, k cloak.Cloak, e api.Errno) {
		if e != api.OK {
			return
		}
		if !has(k.Box, p) || m.count(k.Box) < f.K || m.count(k.Box) != k.Count || area(k.Box) < f.Area {
			t.Fatalf("for %v and %v there is %v", p, f, k)
		}
		own := boxOf(k.Cell.Level, k.Cell.X, k.Cell.Y)
		wide, high := k.Box.X1-k.Box.X0+1, k.Box.Y1-k.Box.Y0+1
		side := api.Side >> k.Cell.Level
		fine := false
		switch k.Kind {
		case cloak.Own:
			fine = k.Box == own
		case cloak.Beside:
			fine = wide == 2*side && high == side && k.Box.X0%wide == 0 && k.Box.Y0 == own.Y0
		case cloak.Over:
			fine = wide == side && high == 2*side && k.Box.Y0%high == 0 && k.Box.X0 == own.X0
		}
		if !fine || !has(own, p) {
			t.Fatalf("for %v and %v there is %v", p, f, k)
		}
	})
}

// P9.4

func TestNoCellBelowDoes(t *testing.T) {
	each(t, 4, func(m model, p api.Point, f api.Profile, k cloak.Cloak, e api.Errno) {
		for level := 16; level > k.Cell.Level; level-- {
			if own := boxOf(level, p.X/(api.Side>>level), p.Y/(api.Side>>level)); m.does(own, f) {
				t.Fatalf("for %v and %v %v does, there is %v", p, f, own, k)
			}
		}
	})
}

// P9.5

func TestNoneJustIfTheGridDoesNotDo(t *testing.T) {
	none := 0
	each(t, 5, func(m model, p api.Point, f api.Profile, k cloak.Cloak, e api.Errno) {
		if m.does(rc(0, 0, last, last), f) != (e == api.OK) || e != api.OK && e != api.ErrNone {
			t.Fatalf("for %v and %v of %d points: %d", p, f, len(m), e)
		}
		if e != api.OK {
			none++
		}
	})
	if none < 20 {
		t.Error("there is none", none, "times")
	}
}

// P9.6

func TestMoreIsFoundFurtherUp(t *testing.T) {
	r := rand.New(rand.NewSource(6))
	each(t, 7, func(m model, p api.Point, f api.Profile, k cloak.Cloak, e api.Errno) {
		y := made(t, m...)
		for range 8 {
			more := pf(f.K+r.Intn(4), f.Area+uint64(r.Intn(2))<<r.Intn(33))
			up, eUp := cloak.Find(y, p, more)
			if e != api.OK && eUp == api.OK {
				t.Fatalf("for %v and %v there is none, for %v %v", p, f, more, up)
			}
			if e == api.OK && eUp == api.OK && up.Cell.Level > k.Cell.Level {
				t.Fatalf("for %v and %v there is %v, for %v %v", p, f, k, more, up)
			}
		}
	})
}
