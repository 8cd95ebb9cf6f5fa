package cifquad_test

import (
	"math"
	"math/rand"
	"slices"
	"sync"
	"testing"

	"paravent/api"
	"paravent/cifquad"
)

const last = api.Side - 1

func pt(x, y int) api.Point { return api.Point{X: x, Y: y} }

func rc(x0, y0, x1, y1 int) api.Rect { return api.Rect{X0: x0, Y0: y0, X1: x1, Y1: y1} }

func cl(level, x, y int) api.Cell { return api.Cell{Level: level, X: x, Y: y} }

func shape(id int, box api.Rect, label int) api.Shape {
	return api.Shape{ID: id, Box: box, Label: label}
}

func grid() api.Rect { return rc(0, 0, last, last) }

func badNumbers() []int {
	return []int{-1, -2, -64, math.MinInt, math.MinInt + 1, math.MaxInt, math.MaxInt - 1, math.MinInt32, 1 << 32}
}

func badPoints() []api.Point {
	l := []api.Point{pt(api.Side, 0), pt(0, api.Side), pt(api.Side, api.Side), pt(last, api.Side)}
	for _, n := range badNumbers() {
		l = append(l, pt(n, 5), pt(5, n), pt(n, n))
	}
	return l
}

func badRects() []api.Rect {
	l := []api.Rect{
		rc(1, 0, 0, 0), rc(0, 1, 0, 0), rc(4, 4, 3, 5), rc(4, 4, 5, 3), rc(last, last, 0, 0),
		rc(0, 0, api.Side, 5), rc(0, 0, 5, api.Side), rc(-1, -1, api.Side, api.Side), rc(-1, 0, last, last),
	}
	for _, n := range badNumbers() {
		l = append(l, rc(n, 0, 5, 5), rc(0, n, 5, 5), rc(5, 5, n, 9), rc(5, 5, 9, n), rc(n, n, n, n))
	}
	return l
}

func badCells() []api.Cell {
	l := []api.Cell{cl(0, 1, 0), cl(0, 0, 1), cl(1, 2, 0), cl(1, 0, 2), cl(15, 1<<15, 0), cl(16, 0, api.Side), cl(17, 0, 0)}
	for _, n := range badNumbers() {
		l = append(l, cl(n, 0, 0), cl(3, n, 0), cl(3, 0, n), cl(n, n, n))
	}
	return l
}

// A model is the document's words: shapes, and what hangs on them.

type model []api.Shape

func (m model) place(id int) int {
	return slices.IndexFunc(m, func(s api.Shape) bool { return s.ID == id })
}

func hasPoint(r api.Rect, x, y int) bool {
	return x >= r.X0 && x <= r.X1 && y >= r.Y0 && y <= r.Y1
}

// haveOne tells whether two rectangles have a point in common: if they have, they have that of the greatest X0 and Y0.
func haveOne(a, b api.Rect) bool {
	x, y := max(a.X0, b.X0), max(a.Y0, b.Y0)
	return hasPoint(a, x, y) && hasPoint(b, x, y)
}

func isIn(a, b api.Rect) bool {
	return hasPoint(b, a.X0, a.Y0) && hasPoint(b, a.X1, a.Y1)
}

func byID(l []api.Shape) []api.Shape {
	sorted := slices.Clone(l)
	slices.SortFunc(sorted, func(a, b api.Shape) int {
		if a.ID < b.ID {
			return -1
		}
		return 1
	})
	return sorted
}

func (m model) those(is func(api.Shape) bool) []api.Shape {
	var l []api.Shape
	for _, s := range m {
		if is(s) {
			l = append(l, s)
		}
	}
	return byID(l)
}

func (m model) meets(r api.Rect) []api.Shape {
	return m.those(func(s api.Shape) bool { return haveOne(s.Box, r) })
}

func (m model) within(r api.Rect) []api.Shape {
	return m.those(func(s api.Shape) bool { return isIn(s.Box, r) })
}

// homeOf is the cell of the greatest level whose box has a rectangle.
func homeOf(r api.Rect) api.Cell {
	for level := 16; ; level-- {
		side := api.Side >> level
		c := cl(level, r.X0/side, r.Y0/side)
		if r.X1/side == c.X && r.Y1/side == c.Y {
			return c
		}
	}
}

// over are the cells that a cell stands under, itself too.
func over(c api.Cell) []api.Cell {
	l := []api.Cell{c}
	for c.Level > 0 {
		c = cl(c.Level-1, c.X/2, c.Y/2)
		l = append(l, c)
	}
	return l
}

// under is how many shapes there are under each node.
func (m model) under() map[api.Cell]int {
	counts := map[api.Cell]int{{}: 0}
	for _, s := range m {
		for _, c := range over(homeOf(s.Box)) {
			counts[c]++
		}
	}
	return counts
}

// far is how far a shape, snapped to a level, is from a point.
func far(s api.Shape, p api.Point, level int) int64 {
	side := int64(api.Side >> level)
	gap := func(from, to, n int) int64 {
		least, greatest := int64(from)/side*side, (int64(to)/side+1)*side-1
		return max(least-int64(n), int64(n)-greatest, 0)
	}
	dx, dy := gap(s.Box.X0, s.Box.X1, p.X), gap(s.Box.Y0, s.Box.Y1, p.Y)
	return dx*dx + dy*dy
}

func (m model) nearest(p api.Point, n, level int, keep func(api.Shape) bool) []api.Shape {
	l := m.those(func(s api.Shape) bool { return keep == nil || keep(s) })
	slices.SortStableFunc(l, func(a, b api.Shape) int {
		da, db := far(a, p, level), far(b, p, level)
		switch {
		case da < db:
			return -1
		case da > db:
			return 1
		}
		return 0
	})
	return l[:min(n, len(l))]
}

func made(t *testing.T, l ...api.Shape) *cifquad.Tree {
	t.Helper()
	q := cifquad.New()
	if q == nil {
		t.Fatal("New makes none")
	}
	for _, s := range l {
		wantErr(t, "Put", q.Put(s), api.OK)
	}
	return q
}

func wantErr(t *testing.T, what string, got, want api.Errno) {
	t.Helper()
	if got != want {
		t.Fatalf("%s: %d, want %d", what, got, want)
	}
}

func wantShapes(t *testing.T, what string, got, want []api.Shape) {
	t.Helper()
	if !slices.Equal(got, want) {
		t.Fatalf("%s: %v, want %v", what, got, want)
	}
}

// wantNodes holds what a tree tells of nodes against a model.
func wantNodes(t *testing.T, q *cifquad.Tree, m model) {
	t.Helper()
	counts := m.under()
	if q.Nodes() != len(counts) {
		t.Fatalf("%d nodes, want %d", q.Nodes(), len(counts))
	}
	for c, n := range counts {
		if q.Under(c) != n {
			t.Fatalf("under %v there are %d, want %d", c, q.Under(c), n)
		}
		for i := range 4 {
			if child := cl(c.Level+1, 2*c.X+i%2, 2*c.Y+i/2); q.Under(child) != counts[child] {
				t.Fatalf("under %v there are %d, want %d", child, q.Under(child), counts[child])
			}
		}
	}
}

// wantHas holds all that a tree tells of itself against a model.
func wantHas(t *testing.T, q *cifquad.Tree, m model) {
	t.Helper()
	wantNodes(t, q, m)
	if q.Len() != len(m) {
		t.Fatalf("Len is %d, want %d", q.Len(), len(m))
	}
	wantShapes(t, "All", q.All(), byID(m))
	for _, s := range m {
		if got, ok := q.Find(s.ID); got != s || !ok {
			t.Fatalf("Find(%d) is %v, %v, want %v", s.ID, got, ok, s)
		}
	}
}

func wantEmpty(t *testing.T, q *cifquad.Tree) {
	t.Helper()
	for _, id := range []int{0, 1, -1, 7, math.MinInt, math.MaxInt} {
		if s, ok := q.Find(id); s != (api.Shape{}) || ok {
			t.Errorf("Find(%d) is %v, %v", id, s, ok)
		}
	}
	for _, r := range append(badRects(), grid(), rc(0, 0, 0, 0), rc(5, 5, 9, 9)) {
		if meet, within := q.Meets(r), q.Within(r); len(meet) != 0 || len(within) != 0 {
			t.Errorf("Meets(%v) is %v, Within %v", r, meet, within)
		}
	}
	for _, c := range append(badCells(), cl(0, 0, 0), cl(1, 1, 1), cl(16, 0, 0), cl(16, last, last)) {
		if n := q.Under(c); n != 0 {
			t.Errorf("Under(%v) is %d", c, n)
		}
	}
	for _, level := range []int{-1, 0, 7, 16, 17} {
		if l := q.Nearest(pt(0, 0), 9, level, nil); len(l) != 0 {
			t.Errorf("Nearest is %v", l)
		}
	}
	if q.Len() != 0 || len(q.All()) != 0 {
		t.Error("there are", q.Len(), q.All())
	}
}

// spread are points of many kinds: anywhere, close together, at the edges of cells, and many the same.
func spread(r *rand.Rand) api.Point {
	switch r.Intn(5) {
	case 0:
		return pt(r.Intn(api.Side), r.Intn(api.Side))
	case 1:
		return pt(100+r.Intn(8), 200+r.Intn(8))
	case 2:
		return pt(32766+r.Intn(4), 32766+r.Intn(4))
	case 3:
		return pt(r.Intn(2)*last, r.Intn(2)*last)
	}
	return pt(7, 7)
}

// someRect are rectangles of many kinds: between any two points, and of all sizes.
func someRect(r *rand.Rand) api.Rect {
	a, b := spread(r), spread(r)
	if r.Intn(2) == 0 {
		side := 1 << r.Intn(17)
		b = pt(min(a.X+r.Intn(side), last), min(a.Y+r.Intn(side), last))
	}
	return rc(min(a.X, b.X), min(a.Y, b.Y), max(a.X, b.X), max(a.Y, b.Y))
}

// someIDs are n IDs, no two the same, in no order.
func someIDs(r *rand.Rand, n int) []int {
	ids := []int{math.MinInt, math.MaxInt, -1, 0}
	for i := range n {
		ids = append(ids, i*3-n)
	}
	slices.Sort(ids)
	ids = slices.Compact(ids)
	r.Shuffle(len(ids), func(i, j int) { ids[i], ids[j] = ids[j], ids[i] })
	return ids[:n]
}

func someShapes(r *rand.Rand, n int) []api.Shape {
	var l []api.Shape
	for _, id := range someIDs(r, n) {
		l = append(l, shape(id, someRect(r), r.Intn(8)))
	}
	return l
}

// P7.1

func TestNew(t *testing.T) {
	q := made(t)
	wantEmpty(t, q)
	wantHas(t, q, nil)
	if q.Nodes() != 1 {
		t.Error("without shapes there are so many nodes:", q.Nodes())
	}
	wantErr(t, "Take", q.Take(0), api.ErrNone)
}

func TestNil(t *testing.T) {
	var q *cifquad.Tree
	for _, box := range append(badRects(), grid(), rc(5, 5, 9, 9)) {
		wantErr(t, "Put", q.Put(shape(1, box, 0)), api.ErrNil)
	}
	wantErr(t, "Take", q.Take(1), api.ErrNil)
	wantEmpty(t, q)
	if q.Nodes() != 0 {
		t.Error("a nil tree has so many nodes:", q.Nodes())
	}
}

// P1: a tree that New did not make is one to be asked, too; it has no shapes.
func TestUnmade(t *testing.T) {
	q := &cifquad.Tree{}
	wantEmpty(t, q)
	wantErr(t, "Take", q.Take(1), api.ErrNone)
	wantErr(t, "Put", q.Put(shape(1, rc(5, 5, 9, 9), 2)), api.OK)
	wantHas(t, q, model{shape(1, rc(5, 5, 9, 9), 2)})
	wantShapes(t, "Nearest", q.Nearest(pt(0, 0), 3, 16, nil), q.All())
	wantErr(t, "Take", q.Take(1), api.OK)
	wantEmpty(t, q)
}

func TestPut(t *testing.T) {
	q := made(t, shape(1, rc(0, 0, 1, 1), 0), shape(2, rc(1, 1, 2, 2), 3))
	// The label alone; as it stands; with the home it has; away; to where another one stands.
	for _, s := range []api.Shape{
		shape(1, rc(0, 0, 1, 1), 7), shape(1, rc(0, 0, 1, 1), 7), shape(1, rc(0, 1, 1, 1), 7),
		shape(1, rc(last, 0, last, 0), 7), shape(1, rc(1, 1, 2, 2), 3),
	} {
		wantErr(t, "Put", q.Put(s), api.OK)
		wantHas(t, q, model{s, shape(2, rc(1, 1, 2, 2), 3)})
	}
	if l := q.Meets(rc(0, 0, 0, 0)); len(l) != 0 {
		t.Error("where the shape was there are", l)
	}
	wantErr(t, "Put", q.Put(shape(3, grid(), 1)), api.OK)
	wantHas(t, q, model{shape(1, rc(1, 1, 2, 2), 3), shape(2, rc(1, 1, 2, 2), 3), shape(3, grid(), 1)})
}

func TestPutRefuses(t *testing.T) {
	l := []api.Shape{shape(1, rc(0, 0, 1, 1), 0), shape(2, rc(1, 1, 2, 2), 3)}
	q := made(t, l...)
	for _, box := range badRects() {
		for _, id := range []int{1, 3} {
			wantErr(t, "Put", q.Put(shape(id, box, 5)), api.ErrArg)
		}
	}
	wantHas(t, q, l)
}

func TestPutTakesAllIDsAndLabels(t *testing.T) {
	var l []api.Shape
	for i, n := range append(badNumbers(), 0, 1, 7, 65535, 65536) {
		l = append(l, shape(n, rc(i, i, 2*i, 3*i), n))
	}
	q := made(t, l...)
	wantHas(t, q, l)
	for i, s := range l {
		wantErr(t, "Take", q.Take(s.ID), api.OK)
		wantHas(t, q, l[i+1:])
	}
}

func TestTake(t *testing.T) {
	a, b := shape(1, rc(0, 0, 1, 1), 0), shape(2, rc(0, 1, 1, 1), 3) // both have the home 15 0 0
	q := made(t, a, b)
	for _, id := range append(badNumbers(), 0, 3) {
		wantErr(t, "Take", q.Take(id), api.ErrNone)
	}
	wantHas(t, q, model{a, b})
	wantErr(t, "Take", q.Take(1), api.OK)
	wantErr(t, "Take", q.Take(1), api.ErrNone)
	wantHas(t, q, model{b})
	wantErr(t, "Put", q.Put(a), api.OK)
	wantErr(t, "Take", q.Take(2), api.OK)
	wantHas(t, q, model{a})
	wantErr(t, "Take", q.Take(1), api.OK)
	wantErr(t, "Take", q.Take(1), api.ErrNone)
	wantEmpty(t, q)
	wantHas(t, q, nil)
}

func TestTreesAreApart(t *testing.T) {
	a, b := made(t, shape(1, rc(4, 4, 5, 5), 0)), made(t, shape(1, rc(9, 9, 9, 9), 1), shape(2, rc(8, 9, 9, 9), 1))
	wantErr(t, "Take", b.Take(1), api.OK)
	wantErr(t, "Put", a.Put(shape(3, rc(4, 4, 4, 5), 0)), api.OK)
	wantHas(t, a, model{shape(1, rc(4, 4, 5, 5), 0), shape(3, rc(4, 4, 4, 5), 0)})
	wantHas(t, b, model{shape(2, rc(8, 9, 9, 9), 1)})
}

// TestAgainstAModel holds a tree against the document's words, through many turns.
func TestAgainstAModel(t *testing.T) {
	r := rand.New(rand.NewSource(1))
	for range 4 {
		q := made(t)
		var m model
		for turn := range 900 {
			next := shape(r.Intn(120)-20, someRect(r), r.Intn(9)-1)
			at := m.place(next.ID)
			switch {
			case r.Intn(900) > turn && at < 0:
				wantErr(t, "Put", q.Put(next), api.OK)
				m = append(m, next)
			case at < 0:
				wantErr(t, "Take", q.Take(next.ID), api.ErrNone)
			case r.Intn(2) == 0:
				wantErr(t, "Put", q.Put(next), api.OK)
				m[at] = next
			default:
				wantErr(t, "Take", q.Take(next.ID), api.OK)
				m = slices.Delete(m, at, at+1)
			}
			wantHas(t, q, m)
			box, p, n, level := someRect(r), spread(r), r.Intn(len(m)+1)+1, r.Intn(17)
			wantShapes(t, "Meets", q.Meets(box), m.meets(box))
			wantShapes(t, "Within", q.Within(box), m.within(box))
			wantShapes(t, "Nearest", q.Nearest(p, n, level, nil), m.nearest(p, n, level, nil))
		}
	}
}

// P7.2

func TestExample(t *testing.T) {
	q := made(t, shape(1, rc(0, 0, 1, 1), 0))
	if q.Nodes() != 16 || q.Under(cl(15, 0, 0)) != 1 || q.Under(cl(16, 0, 0)) != 0 {
		t.Error(q.Nodes(), q.Under(cl(15, 0, 0)), q.Under(cl(16, 0, 0)))
	}
	wantErr(t, "Put", q.Put(shape(2, rc(1, 1, 2, 2), 0)), api.OK)
	if q.Nodes() != 16 || q.Under(cl(15, 0, 0)) != 1 || q.Under(cl(14, 0, 0)) != 2 || q.Under(cl(0, 0, 0)) != 2 {
		t.Error(q.Nodes(), q.Under(cl(15, 0, 0)), q.Under(cl(14, 0, 0)), q.Under(cl(0, 0, 0)))
	}
	wantErr(t, "Take", q.Take(1), api.OK)
	if q.Nodes() != 15 || q.Under(cl(15, 0, 0)) != 0 || q.Under(cl(14, 0, 0)) != 1 {
		t.Error(q.Nodes(), q.Under(cl(15, 0, 0)), q.Under(cl(14, 0, 0)))
	}
}

func TestNodes(t *testing.T) {
	for _, c := range []struct {
		boxes []api.Rect
		nodes int
	}{
		{[]api.Rect{grid()}, 1},
		{[]api.Rect{rc(32767, 5, 32768, 5)}, 1},
		{[]api.Rect{rc(0, 0, 32767, 32767)}, 2},
		{[]api.Rect{rc(0, 0, 0, 0)}, 17},
		{[]api.Rect{rc(0, 0, 0, 0), rc(0, 0, 0, 0)}, 17},
		{[]api.Rect{rc(0, 0, 0, 0), rc(last, last, last, last)}, 33},
		{[]api.Rect{rc(0, 0, 0, 0), rc(1, 0, 1, 0), rc(0, 1, 0, 1), rc(1, 1, 1, 1)}, 20},
		{[]api.Rect{rc(0, 0, 0, 0), rc(last, 0, last, 0), rc(0, last, 0, last), rc(last, last, last, last), grid()}, 65},
	} {
		q := made(t)
		var m model
		for i, box := range c.boxes {
			m = append(m, shape(i, box, 0))
			wantErr(t, "Put", q.Put(m[i]), api.OK)
		}
		if q.Nodes() != c.nodes {
			t.Errorf("of %v there are %d nodes, want %d", c.boxes, q.Nodes(), c.nodes)
		}
		wantHas(t, q, m)
	}
}

func TestMeetsAndWithin(t *testing.T) {
	l := []api.Shape{
		shape(4, grid(), 0), shape(3, rc(10, 10, 20, 20), 1), shape(2, rc(20, 20, 30, 30), 2), shape(1, rc(15, 15, 15, 15), 3),
		shape(-5, rc(32767, 32767, 32768, 32768), 4),
	}
	q := made(t, l...)
	for _, c := range []struct {
		r             api.Rect
		meets, within []int
	}{
		{grid(), []int{-5, 1, 2, 3, 4}, []int{-5, 1, 2, 3, 4}},
		{rc(10, 10, 20, 20), []int{1, 2, 3, 4}, []int{1, 3}},
		{rc(11, 10, 20, 20), []int{1, 2, 3, 4}, []int{1}},
		{rc(10, 11, 20, 20), []int{1, 2, 3, 4}, []int{1}},
		{rc(10, 10, 19, 20), []int{1, 3, 4}, []int{1}},
		{rc(10, 10, 20, 19), []int{1, 3, 4}, []int{1}},
		{rc(0, 0, 10, 10), []int{3, 4}, nil},
		{rc(0, 0, 9, last), []int{4}, nil},
		{rc(0, 0, last, 9), []int{4}, nil},
		{rc(21, 0, 40, 40), []int{2, 4}, nil},
		{rc(15, 15, 15, 15), []int{1, 3, 4}, []int{1}},
		{rc(20, 20, 20, 20), []int{2, 3, 4}, nil},
		{rc(10, 10, 30, 30), []int{1, 2, 3, 4}, []int{1, 2, 3}},
		{rc(31, 31, 32767, 32767), []int{-5, 4}, nil},
		{rc(31, 31, 32768, 32768), []int{-5, 4}, []int{-5}},
		{rc(32768, 32768, last, last), []int{-5, 4}, nil},
		{rc(0, 0, 32768, 32768), []int{-5, 1, 2, 3, 4}, []int{-5, 1, 2, 3}},
		{rc(0, 1, last, last), []int{-5, 1, 2, 3, 4}, []int{-5, 1, 2, 3}},
	} {
		of := func(ids []int) []api.Shape {
			return model(l).those(func(s api.Shape) bool { return slices.Contains(ids, s.ID) })
		}
		wantShapes(t, "Meets", q.Meets(c.r), of(c.meets))
		wantShapes(t, "Within", q.Within(c.r), of(c.within))
	}
	for _, r := range badRects() {
		if meet, within := q.Meets(r), q.Within(r); len(meet) != 0 || len(within) != 0 {
			t.Errorf("Meets(%v) is %v, Within %v", r, meet, within)
		}
	}
}

func TestUnderCellsThatMayNotBe(t *testing.T) {
	r := rand.New(rand.NewSource(2))
	q := made(t, someShapes(r, 200)...)
	for _, c := range badCells() {
		if n := q.Under(c); n != 0 {
			t.Errorf("under %v there are %d", c, n)
		}
	}
}

// Answers are new memory: what is done to them changes no other, and not the tree.
func TestAnswersAreApart(t *testing.T) {
	l := []api.Shape{shape(1, rc(3, 3, 4, 4), 0), shape(2, rc(5, 5, 5, 5), 1), shape(3, rc(60000, 5, 60001, 9), 2)}
	q := made(t, l...)
	for _, ask := range []func() []api.Shape{
		q.All,
		func() []api.Shape { return q.Meets(grid()) },
		func() []api.Shape { return q.Within(grid()) },
		func() []api.Shape { return q.Nearest(pt(0, 0), 3, 16, nil) },
	} {
		got := ask()
		clear(got)
		_ = append(got[:1], shape(8, rc(8, 8, 8, 8), 8), shape(9, rc(9, 9, 9, 9), 9))
		wantShapes(t, "asked again", ask(), l)
		kept := ask()
		wantErr(t, "Put", q.Put(shape(2, rc(1, 1, 1, 1), 1)), api.OK)
		wantErr(t, "Put", q.Put(l[1]), api.OK)
		wantShapes(t, "an answer, once the tree has changed", kept, l)
	}
	wantHas(t, q, l)
}

// P7.3

func TestNearest(t *testing.T) {
	l := []api.Shape{
		shape(1, rc(0, 0, 3, 3), 0), shape(2, rc(10, 0, 12, 1), 1), shape(3, rc(0, 11, 1, 40), 2),
		shape(4, rc(last, last, last, last), 3), shape(5, rc(10, 0, 11, 1), 4), shape(6, rc(32767, 32767, 32768, 32768), 5),
	}
	q := made(t, l...)
	for _, c := range []struct {
		p     api.Point
		n     int
		level int
		ids   []int
	}{
		{pt(0, 0), 9, 16, []int{1, 2, 5, 3, 6, 4}},
		{pt(0, 0), 1, 16, []int{1}},
		{pt(0, 0), 3, 16, []int{1, 2, 5}},
		{pt(last, last), 2, 16, []int{4, 6}},
		{pt(0, 30), 2, 16, []int{3, 1}},
		{pt(12, 1), 2, 16, []int{2, 5}},
		// At the level 14 the first one has 0 0 3 3, the second and the fifth one 8 0 15 3 and 8 0 11 3, the third one 0 8 3 43.
		{pt(8, 4), 9, 14, []int{2, 5, 1, 3, 6, 4}},
		{pt(5, 8), 4, 14, []int{3, 1, 2, 5}},
		{pt(13, 4), 4, 14, []int{2, 5, 1, 3}},
		// At the level 12, in cells of 16 by 16, the first, the second and the fifth one are as near as the third one.
		{pt(5, 5), 4, 12, []int{1, 2, 3, 5}},
		{pt(5, 20), 4, 12, []int{3, 1, 2, 5}},
		// At the level 1 the sixth one is everywhere, the fourth one in the last quarter.
		{pt(last, last), 9, 1, []int{4, 6, 1, 2, 3, 5}},
		{pt(0, 0), 9, 1, []int{1, 2, 3, 5, 6, 4}},
		{pt(last, 0), 3, 1, []int{6, 1, 2}},
		{pt(last, last), 9, 0, []int{1, 2, 3, 4, 5, 6}},
		{pt(last, last), 2, 0, []int{1, 2}},
	} {
		var want []api.Shape
		for _, id := range c.ids {
			want = append(want, l[id-1])
		}
		wantShapes(t, "Nearest", q.Nearest(c.p, c.n, c.level, nil), want)
	}
}

func TestNearestOfAllLevels(t *testing.T) {
	r := rand.New(rand.NewSource(3))
	for range 3 {
		l := someShapes(r, 150)
		q := made(t, l...)
		for level := range 17 {
			for range 12 {
				p := spread(r)
				for _, n := range []int{1, 2, r.Intn(150) + 1, 150, 151, math.MaxInt} {
					wantShapes(t, "Nearest", q.Nearest(p, n, level, nil), model(l).nearest(p, n, level, nil))
				}
			}
		}
	}
}

func TestNearestKeeps(t *testing.T) {
	r := rand.New(rand.NewSource(4))
	l := someShapes(r, 120)
	q := made(t, l...)
	for label := -1; label < 8; label++ {
		keep := func(s api.Shape) bool { return s.Label <= label }
		for range 40 {
			p, n, level := spread(r), r.Intn(130)+1, r.Intn(17)
			wantShapes(t, "Nearest", q.Nearest(p, n, level, keep), model(l).nearest(p, n, level, keep))
		}
	}
	if got := q.Nearest(pt(7, 7), 9, 16, func(api.Shape) bool { return false }); len(got) != 0 {
		t.Error("of none that is kept there are", got)
	}
}

func TestNearestAsksOfShapesAsTheyStand(t *testing.T) {
	r := rand.New(rand.NewSource(5))
	l := someShapes(r, 80)
	q := made(t, l...)
	asked := map[int]int{}
	q.Nearest(pt(100, 200), 80, 16, func(s api.Shape) bool {
		if s != l[model(l).place(s.ID)] {
			t.Errorf("keep is asked of %v", s)
		}
		asked[s.ID]++
		return s.Label > 2
	})
	for id, n := range asked {
		if n != 1 {
			t.Errorf("keep is asked of %d %d times", id, n)
		}
	}
}

func TestNearestRefuses(t *testing.T) {
	l := []api.Shape{shape(1, rc(5, 9, 6, 9), 0), shape(2, rc(6, 9, 6, 10), 1)}
	q := made(t, l...)
	none := func(p api.Point, n, level int) {
		t.Helper()
		for _, keep := range []func(api.Shape) bool{nil, func(api.Shape) bool { return true }} {
			if l := q.Nearest(p, n, level, keep); len(l) != 0 {
				t.Errorf("Nearest(%v, %d, %d) is %v", p, n, level, l)
			}
		}
	}
	for _, p := range badPoints() {
		for _, level := range []int{0, 8, 16} {
			none(p, 2, level)
		}
	}
	for _, level := range append(badNumbers(), 17, 18, 64) {
		none(pt(5, 9), 2, level)
	}
	for _, n := range []int{0, -1, -2, math.MinInt, math.MinInt + 1} {
		none(pt(5, 9), n, 16)
	}
	wantHas(t, q, l)
}

// P1: what keep does does not end a call otherwise than by an answer.
func TestKeepThatPanics(t *testing.T) {
	l := []api.Shape{shape(1, rc(5, 9, 5, 9), 0), shape(2, rc(6, 9, 7, 9), 1), shape(3, rc(7, 9, 9, 9), 2)}
	q := made(t, l...)
	got := q.Nearest(pt(0, 0), 3, 16, func(s api.Shape) bool {
		if s.ID == 2 {
			panic("no")
		}
		return true
	})
	wantShapes(t, "Nearest", got, []api.Shape{l[0], l[2]})
	if got := q.Nearest(pt(0, 0), 3, 16, func(api.Shape) bool { panic(nil) }); len(got) != 0 {
		t.Error("of none that is kept there are", got)
	}
	wantHas(t, q, l)
}

func TestKeepThatAsksTheTree(t *testing.T) {
	r := rand.New(rand.NewSource(6))
	l := someShapes(r, 60)
	q := made(t, l...)
	least := func(s api.Shape) bool { return model(l).within(s.Box)[0] == s }
	got := q.Nearest(pt(7, 7), 60, 14, func(s api.Shape) bool {
		return q.Within(s.Box)[0] == s && len(q.Nearest(pt(9, 9), 60, 3, nil)) == 60
	})
	wantShapes(t, "Nearest", got, model(l).nearest(pt(7, 7), 60, 14, least))
}

func TestKeepThatChangesTheTree(t *testing.T) {
	r := rand.New(rand.NewSource(7))
	for _, level := range []int{0, 9, 16} {
		l := someShapes(r, 100)
		q := made(t, l...)
		got := q.Nearest(pt(101, 201), 100, level, func(s api.Shape) bool {
			return q.Take(s.ID) == api.OK
		})
		wantShapes(t, "Nearest, all of it taken out", got, model(l).nearest(pt(101, 201), 100, level, nil))
		wantEmpty(t, q)
		wantHas(t, q, nil)

		q = made(t, l...)
		for range 5 {
			next := 1000
			got := q.Nearest(pt(101, 201), 500, level, func(s api.Shape) bool {
				q.Put(shape(next, someRect(r), 0))
				q.Put(shape(s.ID, someRect(r), 0))
				q.Take(next - 3)
				next++
				return next%2 == 0
			})
			ids := map[int]int{}
			for _, s := range got {
				if ids[s.ID]++; ids[s.ID] > 1 {
					t.Errorf("%d is told again", s.ID)
				}
			}
			wantHas(t, q, q.All())
		}
	}
}

// A shape that is put farther off each time that it is asked of is told once.
func TestKeepThatPutsFartherOff(t *testing.T) {
	q := made(t, shape(1, rc(0, 0, 0, 0), 0))
	for _, level := range []int{0, 8, 16} {
		wantErr(t, "Put", q.Put(shape(1, rc(0, 0, 0, 0), 0)), api.OK)
		for i := range 40 {
			wantErr(t, "Put", q.Put(shape(10+i, rc(i*1000, i*1000, i*1000, i*1000), 0)), api.OK)
		}
		told := 0
		q.Nearest(pt(0, 0), 1000, level, func(s api.Shape) bool {
			if s.ID != 1 {
				return true
			}
			told++
			q.Put(shape(1, rc(s.Box.X0+1500, s.Box.Y0+1500, s.Box.X1+1500, s.Box.Y1+1500), 0))
			return true
		})
		if told != 1 {
			t.Errorf("at the level %d keep is asked of it %d times", level, told)
		}
	}
}

// Trees that nobody changes may be asked by many at a time.
func TestAskedByMany(t *testing.T) {
	r := rand.New(rand.NewSource(8))
	l := someShapes(r, 100)
	q := made(t, l...)
	var all sync.WaitGroup
	for range 4 {
		all.Go(func() {
			for range 20 {
				if len(q.Nearest(pt(1, 1), 100, 12, nil)) != 100 || len(q.All()) != 100 || q.Under(cl(0, 0, 0)) != 100 {
					t.Error("there are not all")
				}
			}
		})
	}
	all.Wait()
}

// P7.4

func TestNodesHangOnTheShapesAlone(t *testing.T) {
	r := rand.New(rand.NewSource(9))
	for range 6 {
		l := someShapes(r, 90)
		for range 4 {
			r.Shuffle(len(l), func(i, j int) { l[i], l[j] = l[j], l[i] })
			wantHas(t, made(t, l...), l)
			// The same shapes, from elsewhere, with others that come and go.
			q := made(t)
			for i, s := range l {
				wantErr(t, "Put", q.Put(shape(s.ID, someRect(r), 9)), api.OK)
				wantErr(t, "Put", q.Put(shape(100000+i, someRect(r), 9)), api.OK)
			}
			for i, s := range l {
				wantErr(t, "Take", q.Take(100000+i), api.OK)
				wantErr(t, "Put", q.Put(s), api.OK)
			}
			wantHas(t, q, l)
			wantShapes(t, "Nearest", q.Nearest(pt(9, 9), 90, 13, nil), made(t, l...).Nearest(pt(9, 9), 90, 13, nil))
		}
	}
}

// P7.5

func TestWhatIsWithinMeets(t *testing.T) {
	r := rand.New(rand.NewSource(10))
	l := someShapes(r, 150)
	q := made(t, l...)
	for range 300 {
		box := someRect(r)
		meets := q.Meets(box)
		for _, s := range q.Within(box) {
			if !slices.Contains(meets, s) {
				t.Fatalf("%v is within %v, and does not meet it", s, box)
			}
		}
	}
}

func TestAtTheLevel0AllAreAsNear(t *testing.T) {
	r := rand.New(rand.NewSource(11))
	q := made(t, someShapes(r, 150)...)
	for range 60 {
		n := r.Intn(150) + 1
		wantShapes(t, "Nearest", q.Nearest(spread(r), n, 0, nil), q.All()[:n])
	}
}
