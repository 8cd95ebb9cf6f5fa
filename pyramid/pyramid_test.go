package pyramid_test

import (
	"math"
	"math/rand"
	"slices"
	"strconv"
	"sync"
	"testing"

	"paravent/api"
	"paravent/ptquad"
	"paravent/pyramid"
)

const last = api.Side - 1

func pt(x, y int) api.Point { return api.Point{X: x, Y: y} }

func rc(x0, y0, x1, y1 int) api.Rect { return api.Rect{X0: x0, Y0: y0, X1: x1, Y1: y1} }

func cl(level, x, y int) api.Cell { return api.Cell{Level: level, X: x, Y: y} }

func badNumbers() []int {
	return []int{-1, -2, -64, math.MinInt, math.MinInt + 1, math.MaxInt, math.MaxInt - 1, math.MinInt32, 1 << 32}
}

func badPoints() []api.Point {
	l := []api.Point{pt(api.Side, 0), pt(0, api.Side), pt(api.Side, api.Side), pt(last, api.Side)}
	for _, n := range badNumbers() {
		l = append(l, pt(n, 5), pt(5, n), pt(n, n))
	}
	return l
}

// badCells are some that may not be, with numbers whose codes others have.
func badCells() []api.Cell {
	var l []api.Cell
	for level := range 17 {
		row := 1 << level
		l = append(l, cl(level, row, 0), cl(level, 0, row), cl(level, row, row), cl(level, -1, 0), cl(level, 0, -1))
	}
	for _, n := range badNumbers() {
		l = append(l, cl(n, 0, 0), cl(3, n, 0), cl(3, 0, n), cl(n, n, n))
	}
	return append(l, cl(17, 0, 0), cl(18, 0, 0), cl(64, 0, 0))
}

// A model is the document's words: points, each as often as it is there.

type model []api.Point

func (m model) count(c api.Cell) int {
	side, n := api.Side>>c.Level, 0
	for _, p := range m {
		if p.X/side == c.X && p.Y/side == c.Y {
			n++
		}
	}
	return n
}

// cells are those that have points, of a level.
func (m model) cells(level int) []api.Cell {
	side := api.Side >> level
	seen := map[api.Cell]int{}
	var l []api.Cell
	for _, p := range m {
		c := cl(level, p.X/side, p.Y/side)
		if seen[c]++; seen[c] == 1 {
			l = append(l, c)
		}
	}
	return l
}

// codeOf is the code of a point in the document's words: 16 digits each of Y and X in turns, Y's ahead of X's.
func codeOf(p api.Point) string {
	x, y := strconv.FormatInt(int64(p.X+api.Side), 2), strconv.FormatInt(int64(p.Y+api.Side), 2)
	code := ""
	for i := range 16 { // the digit 0 is that of Side alone
		code += y[i+1:i+2] + x[i+1:i+2]
	}
	return code
}

func (m model) points() []api.Point {
	l := slices.Clone(m)
	slices.SortFunc(l, func(a, b api.Point) int {
		switch ca, cb := codeOf(a), codeOf(b); {
		case ca < cb:
			return -1
		case ca > cb:
			return 1
		}
		return 0
	})
	return l
}

func made(t *testing.T, l ...api.Point) *pyramid.Pyramid {
	t.Helper()
	y := pyramid.New()
	for _, p := range l {
		wantIs(t, "Add", y.Add(p), true)
	}
	return y
}

func wantIs(t *testing.T, what string, got, want bool) {
	t.Helper()
	if got != want {
		t.Fatalf("%s: %v, want %v", what, got, want)
	}
}

// wantHas holds all that a pyramid tells against a model.
func wantHas(t *testing.T, y *pyramid.Pyramid, m model) {
	t.Helper()
	if y.Total() != len(m) {
		t.Fatalf("Total is %d, want %d", y.Total(), len(m))
	}
	all := 0
	for level := range 17 {
		l := m.cells(level)
		all += len(l)
		if got := y.Level(level); got != len(l) {
			t.Fatalf("Level(%d) is %d, want %d", level, got, len(l))
		}
		for _, c := range l {
			for _, near := range []api.Cell{c, cl(level, c.X^1, c.Y), cl(level, c.X, c.Y^1), cl(level, c.Y, c.X)} {
				if got := y.Count(near); got != m.count(near) {
					t.Fatalf("Count(%v) is %d, want %d", near, got, m.count(near))
				}
			}
		}
	}
	if y.Cells() != all {
		t.Fatalf("Cells is %d, want %d", y.Cells(), all)
	}
	if got := y.Points(); !slices.Equal(got, m.points()) {
		t.Fatalf("Points are %v, want %v", got, m.points())
	}
}

func wantEmpty(t *testing.T, y *pyramid.Pyramid) {
	t.Helper()
	for level := range 17 {
		row := 1 << level
		for _, c := range []api.Cell{cl(level, 0, 0), cl(level, row-1, 0), cl(level, 0, row-1), cl(level, row/2, row/2)} {
			if n := y.Count(c); n != 0 {
				t.Errorf("Count(%v) is %d", c, n)
			}
		}
		if n := y.Level(level); n != 0 {
			t.Errorf("Level(%d) is %d", level, n)
		}
	}
	if y.Total() != 0 || y.Cells() != 0 || len(y.Points()) != 0 {
		t.Errorf("Total is %d, Cells %d, Points are %v", y.Total(), y.Cells(), y.Points())
	}
}

// spread is a point that stands alone, in a crowd, about the midst, or at an edge.
func spread(r *rand.Rand) api.Point {
	switch r.Intn(5) {
	case 0:
		return pt(r.Intn(api.Side), r.Intn(api.Side))
	case 1:
		return pt(100+r.Intn(8), 200+r.Intn(8))
	case 2:
		return pt(32766+r.Intn(4), 32766+r.Intn(4))
	case 3:
		return pt(r.Intn(2)*last, r.Intn(2)*last)
	}
	return pt(7, 7)
}

func somePoints(r *rand.Rand, n int) []api.Point {
	var l []api.Point
	for range n {
		l = append(l, spread(r))
	}
	return l
}

// P8.1

func TestNew(t *testing.T) {
	wantEmpty(t, made(t))
	wantHas(t, made(t), nil)
}

func TestAdd(t *testing.T) {
	l := []api.Point{pt(0, 0), pt(last, last), pt(last, 0), pt(0, last), pt(5, 9), pt(5, 9), pt(9, 5), pt(32767, 32768), pt(5, 9)}
	y := made(t)
	for i, p := range l {
		wantIs(t, "Add", y.Add(p), true)
		wantHas(t, y, l[:i+1])
	}
	for _, p := range badPoints() {
		wantIs(t, "Add", y.Add(p), false)
	}
	wantHas(t, y, l)
}

func TestRemove(t *testing.T) {
	l := []api.Point{pt(0, 0), pt(5, 9), pt(5, 9), pt(last, last)}
	y := made(t, l...)
	none := append(badPoints(), pt(9, 5), pt(0, 1), pt(1, 0), pt(4, 8), pt(last, last-1), pt(last, 0))
	for _, p := range none {
		wantIs(t, "Remove", y.Remove(p), false)
	}
	wantHas(t, y, l)
	wantIs(t, "Remove", y.Remove(pt(5, 9)), true)
	wantHas(t, y, []api.Point{pt(0, 0), pt(5, 9), pt(last, last)})
	wantIs(t, "Remove", y.Remove(pt(5, 9)), true)
	wantIs(t, "Remove", y.Remove(pt(5, 9)), false)
	wantHas(t, y, []api.Point{pt(0, 0), pt(last, last)})
	wantIs(t, "Remove", y.Remove(pt(last, last)), true)
	wantIs(t, "Remove", y.Remove(pt(0, 0)), true)
	wantEmpty(t, y)
	wantIs(t, "Remove", y.Remove(pt(0, 0)), false)
	wantIs(t, "Add", y.Add(pt(0, 0)), true)
	wantHas(t, y, []api.Point{pt(0, 0)})
}

func TestMove(t *testing.T) {
	l := []api.Point{pt(0, 0), pt(5, 9), pt(5, 9)}
	y := made(t, l...)
	for _, p := range badPoints() {
		wantIs(t, "Move, to what may not be", y.Move(pt(5, 9), p), false)
		wantIs(t, "Move, from what may not be", y.Move(p, pt(5, 9)), false)
		wantIs(t, "Move, both", y.Move(p, p), false)
		wantHas(t, y, l)
	}
	for _, p := range []api.Point{pt(9, 5), pt(0, 1), pt(4, 8), pt(last, last)} {
		wantIs(t, "Move, from none of its points", y.Move(p, pt(5, 9)), false)
		wantIs(t, "Move, from none to itself", y.Move(p, p), false)
		wantHas(t, y, l)
	}
	for _, c := range []struct {
		from, to api.Point
		then     model
	}{
		{pt(5, 9), pt(5, 9), l},                                                         // to itself
		{pt(5, 9), pt(4, 8), model{pt(0, 0), pt(5, 9), pt(4, 8)}},                       // one of two; near by
		{pt(5, 9), pt(last, last), model{pt(0, 0), pt(last, last), pt(4, 8)}},           // far off
		{pt(4, 8), pt(0, 0), model{pt(0, 0), pt(last, last), pt(0, 0)}},                 // to where one is
		{pt(0, 0), pt(32768, 32767), model{pt(0, 0), pt(last, last), pt(32768, 32767)}}, // across the midst
	} {
		wantIs(t, "Move", y.Move(c.from, c.to), true)
		wantHas(t, y, c.then)
	}
	wantIs(t, "Move, from where none is left", y.Move(pt(5, 9), pt(0, 0)), false)
}

func TestNil(t *testing.T) {
	var y *pyramid.Pyramid
	for _, p := range append(badPoints(), pt(0, 0), pt(5, 9), pt(last, last)) {
		wantIs(t, "Add", y.Add(p), false)
		wantIs(t, "Remove", y.Remove(p), false)
		wantIs(t, "Move", y.Move(p, pt(0, 0)), false)
		wantIs(t, "Move", y.Move(pt(0, 0), p), false)
	}
	wantEmpty(t, y)
	for _, n := range append(badNumbers(), 17) {
		if y.Level(n) != 0 || y.Count(cl(n, 0, 0)) != 0 {
			t.Errorf("Level(%d) is %d, Count %d", n, y.Level(n), y.Count(cl(n, 0, 0)))
		}
	}
}

// P1: a pyramid that New did not make is one without points.
func TestZero(t *testing.T) {
	var y pyramid.Pyramid
	wantEmpty(t, &y)
	wantIs(t, "Remove", y.Remove(pt(0, 0)), false)
	wantIs(t, "Move", y.Move(pt(0, 0), pt(1, 1)), false)
	wantIs(t, "Add", y.Add(pt(5, 9)), true)
	wantHas(t, &y, []api.Point{pt(5, 9)})
}

func TestPyramidsAreApart(t *testing.T) {
	a, b := made(t, pt(4, 4)), made(t, pt(4, 4), pt(9, 9))
	wantIs(t, "Remove", b.Remove(pt(4, 4)), true)
	wantIs(t, "Add", a.Add(pt(4, 5)), true)
	wantHas(t, a, model{pt(4, 4), pt(4, 5)})
	wantHas(t, b, model{pt(9, 9)})
}

// TestAgainstAModel holds a pyramid against the document's words, through many turns.
func TestAgainstAModel(t *testing.T) {
	r := rand.New(rand.NewSource(1))
	y := made(t)
	var m model
	for turn := range 600 {
		p, to := spread(r), spread(r)
		at := slices.Index(m, p)
		grows := r.Intn(600) > turn
		switch {
		case grows && r.Intn(3) > 0:
			wantIs(t, "Add", y.Add(p), true)
			m = append(m, p)
		case grows:
			wantIs(t, "Move", y.Move(p, to), at >= 0)
			if at >= 0 {
				m[at] = to
			}
		default:
			wantIs(t, "Remove", y.Remove(p), at >= 0)
			if at >= 0 {
				m = slices.Delete(m, at, at+1)
			}
		}
		wantHas(t, y, m)
	}
}

// P8.2

func TestExample(t *testing.T) {
	y := made(t, pt(0, 0), pt(1, 0), pt(1, 0))
	if a, b := y.Count(cl(16, 1, 0)), y.Count(cl(15, 0, 0)); a != 2 || b != 3 {
		t.Errorf("16 1 0 has %d, 15 0 0 has %d", a, b)
	}
	if y.Cells() != 18 || y.Level(16) != 2 || y.Level(15) != 1 || y.Level(0) != 1 || y.Total() != 3 {
		t.Error(y.Cells(), y.Level(16), y.Level(15), y.Level(0), y.Total())
	}
	// X is not taken for Y, nor a code of one level for the same one of another.
	if y.Count(cl(16, 0, 1)) != 0 || y.Count(cl(16, 0, 0)) != 1 || y.Count(cl(15, 1, 0)) != 0 {
		t.Error(y.Count(cl(16, 0, 1)), y.Count(cl(16, 0, 0)), y.Count(cl(15, 1, 0)))
	}
}

func TestWhatMayNotBeHasNoCount(t *testing.T) {
	r := rand.New(rand.NewSource(2))
	y := made(t, append(somePoints(r, 200), pt(0, 0), pt(last, last))...)
	for _, c := range badCells() {
		if n := y.Count(c); n != 0 {
			t.Errorf("Count(%v) is %d", c, n)
		}
	}
	for _, n := range append(badNumbers(), 17, 18, 64) {
		if got := y.Level(n); got != 0 {
			t.Errorf("Level(%d) is %d", n, got)
		}
	}
}

func TestPoints(t *testing.T) {
	// Y's digits go ahead of X's, the highest first.
	want := []api.Point{
		pt(0, 0), pt(1, 0), pt(1, 0), pt(0, 1), pt(1, 1), pt(2, 0), pt(3, 1), pt(0, 2), pt(3, 3), pt(4, 0),
		pt(last, 0), pt(0, 32768), pt(0, last), pt(32768, 32768), pt(last, last), pt(last, last),
	}
	r := rand.New(rand.NewSource(3))
	for range 20 {
		l := slices.Clone(want)
		r.Shuffle(len(l), func(i, j int) { l[i], l[j] = l[j], l[i] })
		if got := made(t, l...).Points(); !slices.Equal(got, want) {
			t.Fatalf("Points are %v, want %v", got, want)
		}
	}
}

func TestPointsAreNewMemory(t *testing.T) {
	l := []api.Point{pt(1, 1), pt(1, 1), pt(2, 2)}
	y := made(t, l...)
	got := y.Points()
	clear(got)
	_ = append(got[:1], pt(8, 8), pt(9, 9))
	kept := y.Points()
	wantIs(t, "Move", y.Move(pt(1, 1), pt(5, 5)), true)
	wantIs(t, "Move", y.Move(pt(5, 5), pt(1, 1)), true)
	if !slices.Equal(kept, l) {
		t.Error("once the pyramid has changed, an answer is", kept)
	}
	wantHas(t, y, l)
}

// Pyramids that nobody changes may be asked by many at a time.
func TestAskedByMany(t *testing.T) {
	r := rand.New(rand.NewSource(4))
	y := made(t, somePoints(r, 100)...)
	var all sync.WaitGroup
	for range 4 {
		all.Go(func() {
			for range 20 {
				if y.Total() != 100 || len(y.Points()) != 100 || y.Count(cl(0, 0, 0)) != 100 || y.Cells() < 17 {
					t.Error("there are not all")
				}
			}
		})
	}
	all.Wait()
}

// P8.3

func TestACountIsThatOfTheChildren(t *testing.T) {
	r := rand.New(rand.NewSource(5))
	l := somePoints(r, 300)
	y := made(t, l...)
	for level := range 16 {
		sum := 0
		for _, c := range model(l).cells(level) {
			below := 0
			for i := range 4 {
				below += y.Count(cl(level+1, 2*c.X+i%2, 2*c.Y+i/2))
			}
			if y.Count(c) != below {
				t.Fatalf("%v has %d, its children %d", c, y.Count(c), below)
			}
			sum += below
		}
		if sum != y.Total() {
			t.Fatalf("the level %d has %d of %d points", level, sum, y.Total())
		}
	}
}

// P8.4

func TestNothingIsLeftBehind(t *testing.T) {
	r := rand.New(rand.NewSource(6))
	l, others := somePoints(r, 120), somePoints(r, 120)
	for range 5 {
		r.Shuffle(len(l), func(i, j int) { l[i], l[j] = l[j], l[i] })
		y := made(t, l...)
		wantHas(t, y, l)
		// The same points, from elsewhere, with others that come and go.
		y = made(t)
		for i := range l {
			wantIs(t, "Add", y.Add(others[i]), true)
			wantIs(t, "Add", y.Add(others[i]), true)
		}
		for i, p := range l {
			wantIs(t, "Move", y.Move(others[i], p), true)
			wantIs(t, "Remove", y.Remove(others[i]), true)
		}
		wantHas(t, y, l)
		for _, p := range l {
			wantIs(t, "Remove", y.Remove(p), true)
		}
		wantEmpty(t, y)
	}
}

// P8.5

func TestLevelsGrow(t *testing.T) {
	r := rand.New(rand.NewSource(7))
	for range 20 {
		y := made(t, somePoints(r, r.Intn(80))...)
		for level := range 17 {
			if level < 16 && y.Level(level) > y.Level(level+1) || y.Level(level) > y.Total() {
				t.Fatalf("the level %d has %d cells with points; of %d points", level, y.Level(level), y.Total())
			}
		}
	}
}

// W2: the pyramid and the tree of points know the same, whatever is done to both.

func TestPyramidAndTreeKnowTheSame(t *testing.T) {
	r := rand.New(rand.NewSource(8))
	y := made(t)
	q, e := ptquad.New(3)
	if e != api.OK {
		t.Fatal(e)
	}
	for range 400 {
		next := api.Record{ID: r.Intn(60), At: spread(r)}
		elder, ok := q.Find(next.ID)
		switch {
		case !ok:
			wantIs(t, "Add", y.Add(next.At), q.Insert(next) == api.OK)
		case r.Intn(3) == 0:
			wantIs(t, "Remove", y.Remove(elder.At), q.Delete(next.ID) == api.OK)
		default:
			wantIs(t, "Move", y.Move(elder.At, next.At), q.Change(next) == api.OK)
		}
		wantSame(t, y, q, spread(r))
	}
}

// wantSame holds a pyramid against a tree: all points, and the cells of all levels that have one of them, or another point.
func wantSame(t *testing.T, y *pyramid.Pyramid, q *ptquad.Tree, other api.Point) {
	t.Helper()
	var m model
	for _, record := range q.All() {
		m = append(m, record.At)
	}
	if y.Total() != q.Len() || !slices.Equal(y.Points(), m.points()) {
		t.Fatalf("the pyramid has %v, the tree %v", y.Points(), m.points())
	}
	for level := range 17 {
		side := api.Side >> level
		for _, c := range append(m.cells(level), cl(level, other.X/side, other.Y/side)) {
			box := rc(c.X*side, c.Y*side, c.X*side+side-1, c.Y*side+side-1)
			if y.Count(c) != q.Count(box) || y.Count(c) != len(q.Window(box)) {
				t.Fatalf("%v has %d in the pyramid, %d in the tree", c, y.Count(c), q.Count(box))
			}
		}
	}
}
