package ptquad_test

import (
	"math"
	"math/rand"
	"slices"
	"sync"
	"testing"

	"paravent/api"
	"paravent/ptquad"
)

const last = api.Side - 1

func pt(x, y int) api.Point { return api.Point{X: x, Y: y} }

func rc(x0, y0, x1, y1 int) api.Rect { return api.Rect{X0: x0, Y0: y0, X1: x1, Y1: y1} }

func rec(id, x, y, label int) api.Record { return api.Record{ID: id, At: pt(x, y), Label: label} }

func grid() api.Rect { return rc(0, 0, last, last) }

func badNumbers() []int {
	return []int{-1, -2, -64, math.MinInt, math.MinInt + 1, math.MaxInt, math.MaxInt - 1, math.MinInt32, 1 << 32}
}

func badPoints() []api.Point {
	l := []api.Point{pt(api.Side, 0), pt(0, api.Side), pt(api.Side, api.Side), pt(last, api.Side)}
	for _, n := range badNumbers() {
		l = append(l, pt(n, 5), pt(5, n), pt(n, n))
	}
	return l
}

func badRects() []api.Rect {
	l := []api.Rect{
		rc(1, 0, 0, 0), rc(0, 1, 0, 0), rc(4, 4, 3, 5), rc(4, 4, 5, 3), rc(last, last, 0, 0),
		rc(0, 0, api.Side, 5), rc(0, 0, 5, api.Side), rc(-1, -1, api.Side, api.Side), rc(-1, 0, last, last),
	}
	for _, n := range badNumbers() {
		l = append(l, rc(n, 0, 5, 5), rc(0, n, 5, 5), rc(5, 5, n, 9), rc(5, 5, 9, n), rc(n, n, n, n))
	}
	return l
}

// A model is the document's words: records, and what hangs on them.

type model []api.Record

func (m model) place(id int) int {
	return slices.IndexFunc(m, func(r api.Record) bool { return r.ID == id })
}

func inRect(r api.Rect, p api.Point) bool {
	return p.X >= r.X0 && p.X <= r.X1 && p.Y >= r.Y0 && p.Y <= r.Y1
}

func byID(l []api.Record) []api.Record {
	sorted := slices.Clone(l)
	slices.SortFunc(sorted, func(a, b api.Record) int {
		if a.ID < b.ID {
			return -1
		}
		return 1
	})
	return sorted
}

func (m model) window(r api.Rect) []api.Record {
	var l []api.Record
	for _, x := range m {
		if inRect(r, x.At) {
			l = append(l, x)
		}
	}
	return byID(l)
}

// nodes are how many there are, and the greatest level, from a box of a level on.
func (m model) nodes(bucket, level int, box api.Rect) (count, depth int) {
	inside := model(m.window(box))
	if len(inside) <= bucket || level == 16 {
		return 1, level
	}
	side := (box.X1 - box.X0 + 1) / 2
	count, depth = 1, level
	for i := range 4 {
		x, y := box.X0+i%2*side, box.Y0+i/2*side
		n, d := inside.nodes(bucket, level+1, rc(x, y, x+side-1, y+side-1))
		count, depth = count+n, max(depth, d)
	}
	return count, depth
}

// far is how far a record's cell of a level is from a point.
func far(r api.Record, p api.Point, level int) int64 {
	side := int64(api.Side >> level)
	gap := func(at, n int) int64 {
		least := int64(at) / side * side
		return max(least-int64(n), int64(n)-(least+side-1), 0)
	}
	dx, dy := gap(r.At.X, p.X), gap(r.At.Y, p.Y)
	return dx*dx + dy*dy
}

func (m model) nearest(p api.Point, n, level int, keep func(api.Record) bool) []api.Record {
	var l []api.Record
	for _, r := range m {
		if keep == nil || keep(r) {
			l = append(l, r)
		}
	}
	l = byID(l)
	slices.SortStableFunc(l, func(a, b api.Record) int {
		da, db := far(a, p, level), far(b, p, level)
		switch {
		case da < db:
			return -1
		case da > db:
			return 1
		}
		return 0
	})
	return l[:min(n, len(l))]
}

func made(t *testing.T, bucket int, l ...api.Record) *ptquad.Tree {
	t.Helper()
	q, e := ptquad.New(bucket)
	if q == nil || e != api.OK {
		t.Fatalf("New(%d) = %v, %d", bucket, q, e)
	}
	for _, r := range l {
		wantErr(t, "Insert", q.Insert(r), api.OK)
	}
	return q
}

func wantErr(t *testing.T, what string, got, want api.Errno) {
	t.Helper()
	if got != want {
		t.Fatalf("%s: %d, want %d", what, got, want)
	}
}

func wantRecords(t *testing.T, what string, got, want []api.Record) {
	t.Helper()
	if !slices.Equal(got, want) {
		t.Fatalf("%s: %v, want %v", what, got, want)
	}
}

func wantShape(t *testing.T, q *ptquad.Tree, nodes, depth int) {
	t.Helper()
	if q.Nodes() != nodes || q.Depth() != depth {
		t.Fatalf("%d nodes, the depth %d; want %d, %d", q.Nodes(), q.Depth(), nodes, depth)
	}
}

// wantHas holds all that a tree tells against a model.
func wantHas(t *testing.T, q *ptquad.Tree, bucket int, m model) {
	t.Helper()
	nodes, depth := m.nodes(bucket, 0, grid())
	wantShape(t, q, nodes, depth)
	if q.Len() != len(m) {
		t.Fatalf("Len is %d, want %d", q.Len(), len(m))
	}
	wantRecords(t, "All", q.All(), byID(m))
	for _, r := range m {
		if got, ok := q.Find(r.ID); got != r || !ok {
			t.Fatalf("Find(%d) is %v, %v, want %v", r.ID, got, ok, r)
		}
	}
}

func wantEmpty(t *testing.T, q *ptquad.Tree) {
	t.Helper()
	for _, id := range []int{0, 1, -1, 7, math.MinInt, math.MaxInt} {
		if r, ok := q.Find(id); r != (api.Record{}) || ok {
			t.Errorf("Find(%d) is %v, %v", id, r, ok)
		}
	}
	for _, r := range append(badRects(), grid(), rc(0, 0, 0, 0), rc(5, 5, 9, 9)) {
		if l := q.Window(r); len(l) != 0 || q.Count(r) != 0 {
			t.Errorf("Window(%v) is %v, Count %d", r, l, q.Count(r))
		}
	}
	for _, level := range []int{-1, 0, 7, 16, 17} {
		if l := q.Nearest(pt(0, 0), 9, level, nil); len(l) != 0 {
			t.Errorf("Nearest is %v", l)
		}
	}
	if q.Len() != 0 || len(q.All()) != 0 {
		t.Error("there are", q.Len(), q.All())
	}
}

// spread are points of many kinds: anywhere, close together, at the edges of cells, and many the same.
func spread(r *rand.Rand) api.Point {
	switch r.Intn(5) {
	case 0:
		return pt(r.Intn(api.Side), r.Intn(api.Side))
	case 1:
		return pt(100+r.Intn(8), 200+r.Intn(8))
	case 2:
		return pt(32766+r.Intn(4), 32766+r.Intn(4))
	case 3:
		return pt(r.Intn(2)*last, r.Intn(2)*last)
	}
	return pt(7, 7)
}

// someIDs are n IDs, no two the same, in no order.
func someIDs(r *rand.Rand, n int) []int {
	ids := []int{math.MinInt, math.MaxInt, -1, 0}
	for i := range n {
		ids = append(ids, i*3-n)
	}
	slices.Sort(ids)
	ids = slices.Compact(ids)
	r.Shuffle(len(ids), func(i, j int) { ids[i], ids[j] = ids[j], ids[i] })
	return ids[:n]
}

func someRecords(r *rand.Rand, n int) []api.Record {
	var l []api.Record
	for _, id := range someIDs(r, n) {
		l = append(l, api.Record{ID: id, At: spread(r), Label: r.Intn(8)})
	}
	return l
}

func someRect(r *rand.Rand) api.Rect {
	a, b := spread(r), spread(r)
	return rc(min(a.X, b.X), min(a.Y, b.Y), max(a.X, b.X), max(a.Y, b.Y))
}

// P6.1

func TestNew(t *testing.T) {
	for bucket := 1; bucket <= api.MaxBucket; bucket++ {
		q := made(t, bucket)
		wantEmpty(t, q)
		wantShape(t, q, 1, 0)
	}
	for _, bucket := range append(badNumbers(), 0, 65, 66, 1000) {
		if q, e := ptquad.New(bucket); q != nil || e != api.ErrArg {
			t.Errorf("New(%d) = %v, %d, want none, %d", bucket, q, e, api.ErrArg)
		}
	}
}

func TestBucketHoldsJustSoMany(t *testing.T) {
	for _, bucket := range []int{1, 2, 3, 63, 64} {
		q := made(t, bucket)
		for i := range bucket {
			wantErr(t, "Insert", q.Insert(rec(i, i%2*last, i/2, 0)), api.OK)
			wantShape(t, q, 1, 0)
		}
		wantErr(t, "Insert", q.Insert(rec(bucket, 0, last, 0)), api.OK)
		if q.Nodes() < 5 || q.Depth() < 1 {
			t.Errorf("%d nodes with %d records, of which a bucket holds %d", q.Nodes(), q.Len(), bucket)
		}
		wantErr(t, "Delete", q.Delete(0), api.OK)
		wantShape(t, q, 1, 0)
	}
}

func TestNil(t *testing.T) {
	var q *ptquad.Tree
	for _, p := range append(badPoints(), pt(0, 0), pt(5, 9)) {
		wantErr(t, "Insert", q.Insert(api.Record{ID: 1, At: p}), api.ErrNil)
		wantErr(t, "Change", q.Change(api.Record{ID: 1, At: p}), api.ErrNil)
	}
	wantErr(t, "Delete", q.Delete(1), api.ErrNil)
	wantEmpty(t, q)
	wantShape(t, q, 0, 0)
}

// P1: a tree that New did not make is one to be asked, too.
func TestUnmadeDoesNotPanic(t *testing.T) {
	q := &ptquad.Tree{}
	for range 2 {
		q.Insert(rec(1, 2, 3, 4))
		q.Change(rec(1, 5, 6, 7))
		q.Nearest(pt(1, 1), 3, 16, nil)
		q.Delete(1)
		q.Find(1)
		q.Window(grid())
		q.Count(grid())
		q.All()
		q.Len()
		q.Nodes()
		q.Depth()
	}
}

func TestInsertRefuses(t *testing.T) {
	l := []api.Record{rec(1, 0, 0, 0), rec(2, last, 0, 3), rec(3, 1, 0, 7)}
	q := made(t, 1, l...)
	for _, p := range badPoints() {
		for _, id := range []int{1, 4} { // with an ID that is there ErrArg comes first
			wantErr(t, "Insert", q.Insert(api.Record{ID: id, At: p}), api.ErrArg)
		}
	}
	for _, r := range l {
		wantErr(t, "Insert", q.Insert(r), api.ErrTwice)
		wantErr(t, "Insert", q.Insert(rec(r.ID, 9, 9, 5)), api.ErrTwice)
	}
	wantHas(t, q, 1, l)
}

func TestInsertTakesAllIDsAndLabels(t *testing.T) {
	var l []api.Record
	for i, n := range append(badNumbers(), 0, 1, 7, 65535, 65536) {
		l = append(l, rec(n, i, i, n))
	}
	q := made(t, 2, l...)
	wantHas(t, q, 2, l)
	for i, r := range l {
		wantErr(t, "Delete", q.Delete(r.ID), api.OK)
		wantHas(t, q, 2, l[i+1:])
	}
}

func TestDelete(t *testing.T) {
	q := made(t, 1, rec(1, 0, 0, 0), rec(2, last, 0, 3))
	for _, id := range append(badNumbers(), 0, 3) {
		wantErr(t, "Delete", q.Delete(id), api.ErrNone)
	}
	wantHas(t, q, 1, model{rec(1, 0, 0, 0), rec(2, last, 0, 3)})
	wantErr(t, "Delete", q.Delete(1), api.OK)
	wantErr(t, "Delete", q.Delete(1), api.ErrNone)
	wantHas(t, q, 1, model{rec(2, last, 0, 3)})
	wantErr(t, "Insert", q.Insert(rec(1, 5, 9, 1)), api.OK)
	wantErr(t, "Delete", q.Delete(2), api.OK)
	wantHas(t, q, 1, model{rec(1, 5, 9, 1)})
	wantErr(t, "Delete", q.Delete(1), api.OK)
	wantEmpty(t, q)
	wantShape(t, q, 1, 0)
	wantErr(t, "Delete", q.Delete(1), api.ErrNone)
}

func TestChange(t *testing.T) {
	q := made(t, 1, rec(1, 0, 0, 0), rec(2, last, 0, 3), rec(3, 1, 0, 7))
	for _, p := range badPoints() {
		for _, id := range []int{1, 4} { // with an ID that is not there ErrArg comes first
			wantErr(t, "Change", q.Change(api.Record{ID: id, At: p}), api.ErrArg)
		}
	}
	wantErr(t, "Change", q.Change(rec(4, 1, 1, 1)), api.ErrNone)
	wantHas(t, q, 1, model{rec(1, 0, 0, 0), rec(2, last, 0, 3), rec(3, 1, 0, 7)})
	wantShape(t, q, 65, 16)
	// The label alone; to where it stands; to where another one stands; away, so that fewer nodes are needed.
	wantErr(t, "Change", q.Change(rec(1, 0, 0, 6)), api.OK)
	wantHas(t, q, 1, model{rec(1, 0, 0, 6), rec(2, last, 0, 3), rec(3, 1, 0, 7)})
	wantErr(t, "Change", q.Change(rec(1, 0, 0, 6)), api.OK)
	wantHas(t, q, 1, model{rec(1, 0, 0, 6), rec(2, last, 0, 3), rec(3, 1, 0, 7)})
	wantErr(t, "Change", q.Change(rec(2, 1, 0, 2)), api.OK)
	wantHas(t, q, 1, model{rec(1, 0, 0, 6), rec(2, 1, 0, 2), rec(3, 1, 0, 7)})
	wantErr(t, "Change", q.Change(rec(2, 0, last, 2)), api.OK)
	wantErr(t, "Change", q.Change(rec(3, last, last, 1)), api.OK)
	wantHas(t, q, 1, model{rec(1, 0, 0, 6), rec(2, 0, last, 2), rec(3, last, last, 1)})
	wantShape(t, q, 5, 1)
	if l := q.Window(rc(0, 0, 9, 9)); len(l) != 1 {
		t.Error("where the records stood there are", l)
	}
}

func TestTreesAreApart(t *testing.T) {
	a, b := made(t, 1, rec(1, 4, 4, 0)), made(t, 1, rec(1, 9, 9, 1), rec(2, 8, 9, 1))
	wantErr(t, "Delete", b.Delete(1), api.OK)
	wantErr(t, "Insert", a.Insert(rec(3, 4, 5, 0)), api.OK)
	wantHas(t, a, 1, model{rec(1, 4, 4, 0), rec(3, 4, 5, 0)})
	wantHas(t, b, 1, model{rec(2, 8, 9, 1)})
}

// TestAgainstAModel holds a tree against the document's words, through many turns.
func TestAgainstAModel(t *testing.T) {
	r := rand.New(rand.NewSource(1))
	for _, bucket := range []int{1, 2, 3, 8, 64} {
		q := made(t, bucket)
		var m model
		for turn := range 900 {
			next := api.Record{ID: r.Intn(120) - 20, At: spread(r), Label: r.Intn(9) - 1}
			at := m.place(next.ID)
			grows := r.Intn(900) > turn
			switch {
			case grows && at < 0:
				wantErr(t, "Insert", q.Insert(next), api.OK)
				m = append(m, next)
			case grows && r.Intn(2) == 0:
				wantErr(t, "Insert", q.Insert(next), api.ErrTwice)
			case at < 0 && r.Intn(2) == 0:
				wantErr(t, "Delete", q.Delete(next.ID), api.ErrNone)
			case at < 0:
				wantErr(t, "Change", q.Change(next), api.ErrNone)
			case r.Intn(2) == 0:
				wantErr(t, "Change", q.Change(next), api.OK)
				m[at] = next
			default:
				wantErr(t, "Delete", q.Delete(next.ID), api.OK)
				m = slices.Delete(m, at, at+1)
			}
			wantHas(t, q, bucket, m)
			box, p, n, level := someRect(r), spread(r), r.Intn(len(m)+2), r.Intn(17)
			wantRecords(t, "Window", q.Window(box), m.window(box))
			if got := q.Count(box); got != len(m.window(box)) {
				t.Fatalf("Count(%v) is %d of %v", box, got, m.window(box))
			}
			wantRecords(t, "Nearest", q.Nearest(p, n, level, nil), m.nearest(p, n, level, nil))
		}
	}
}

// P6.2

func TestExamples(t *testing.T) {
	q := made(t, 1, rec(0, 0, 0, 0), rec(1, last, 0, 0))
	wantShape(t, q, 5, 1)
	wantErr(t, "Insert", q.Insert(rec(2, 1, 0, 0)), api.OK)
	wantShape(t, q, 65, 16)
	wantErr(t, "Delete", q.Delete(1), api.OK)
	wantShape(t, q, 65, 16)
	wantErr(t, "Delete", q.Delete(2), api.OK)
	wantShape(t, q, 1, 0)
}

func TestManyAtOnePoint(t *testing.T) {
	// A point is the least cell: what stands there stays together, however many they are.
	for _, bucket := range []int{1, 4, 64} {
		q := made(t, bucket)
		var m model
		for i := range bucket + 30 {
			m = append(m, rec(i, 4711, last, i))
			wantErr(t, "Insert", q.Insert(m[i]), api.OK)
			wantHas(t, q, bucket, m)
		}
		wantShape(t, q, 65, 16)
		if n := q.Count(rc(4711, last, 4711, last)); n != len(m) {
			t.Errorf("%d of %d stand at their point", n, len(m))
		}
		for len(m) > 0 {
			at := len(m) / 2
			wantErr(t, "Delete", q.Delete(m[at].ID), api.OK)
			m = slices.Delete(m, at, at+1)
			wantHas(t, q, bucket, m)
		}
		wantShape(t, q, 1, 0)
	}
}

func TestFindOfNone(t *testing.T) {
	q := made(t, 3, rec(5, 1, 2, 3), rec(-7, 4, 5, 6))
	for _, id := range append(badNumbers(), 0, 1, 4, 6, 7, -5) {
		if r, ok := q.Find(id); r != (api.Record{}) || ok {
			t.Errorf("Find(%d) is %v, %v", id, r, ok)
		}
	}
}

func TestWindow(t *testing.T) {
	l := []api.Record{rec(9, 5, 9, 1), rec(2, 6, 9, 2), rec(7, 5, 10, 3), rec(-3, 0, 0, 4), rec(4, last, last, 5), rec(1, 32768, 32767, 6)}
	for _, bucket := range []int{1, 2, 64} {
		q := made(t, bucket, l...)
		for _, c := range []struct {
			r   api.Rect
			ids []int
		}{
			{grid(), []int{-3, 1, 2, 4, 7, 9}},
			{rc(5, 9, 5, 9), []int{9}},
			{rc(5, 9, 6, 9), []int{2, 9}},
			{rc(5, 9, 5, 10), []int{7, 9}},
			{rc(5, 9, 6, 10), []int{2, 7, 9}},
			{rc(0, 0, 0, 0), []int{-3}},
			{rc(0, 0, 4, 9), []int{-3}},
			{rc(0, 0, 5, 8), []int{-3}},
			{rc(6, 10, 32767, last), nil},
			{rc(1, 1, last-1, last-1), []int{1, 2, 7, 9}},
			{rc(32768, 0, last, 32767), []int{1}},
			{rc(32768, 32768, last, last), []int{4}},
			{rc(last, last, last, last), []int{4}},
		} {
			var want []api.Record
			for _, id := range c.ids {
				want = append(want, l[model(l).place(id)])
			}
			wantRecords(t, "Window", q.Window(c.r), want)
			if n := q.Count(c.r); n != len(want) {
				t.Errorf("Count(%v) is %d, want %d", c.r, n, len(want))
			}
		}
		for _, r := range badRects() {
			if l := q.Window(r); len(l) != 0 || q.Count(r) != 0 {
				t.Errorf("Window(%v) is %v, Count %d", r, l, q.Count(r))
			}
		}
	}
}

func TestAnswersAreNewMemory(t *testing.T) {
	l := []api.Record{rec(1, 3, 3, 0), rec(2, 4, 4, 1), rec(3, 60000, 5, 2)}
	q := made(t, 2, l...)
	for _, ask := range []func() []api.Record{
		q.All,
		func() []api.Record { return q.Window(grid()) },
		func() []api.Record { return q.Nearest(pt(0, 0), 3, 16, nil) },
	} {
		got := ask()
		clear(got)
		_ = append(got[:1], rec(8, 8, 8, 8), rec(9, 9, 9, 9))
		wantRecords(t, "asked again", ask(), l)
		kept := ask()
		wantErr(t, "Change", q.Change(rec(2, 1, 1, 1)), api.OK)
		wantErr(t, "Change", q.Change(l[1]), api.OK)
		wantRecords(t, "an answer, once the tree has changed", kept, l)
	}
	wantHas(t, q, 2, l)
}

// P6.3

func TestNearest(t *testing.T) {
	l := []api.Record{rec(1, 0, 0, 0), rec(2, 10, 0, 1), rec(3, 0, 11, 2), rec(4, last, last, 3), rec(5, 10, 0, 4)}
	for _, bucket := range []int{1, 2, 64} {
		q := made(t, bucket, l...)
		for _, c := range []struct {
			p     api.Point
			n     int
			level int
			ids   []int
		}{
			{pt(0, 0), 9, 16, []int{1, 2, 5, 3, 4}},
			{pt(0, 0), 1, 16, []int{1}},
			{pt(0, 0), 2, 16, []int{1, 2}},
			{pt(last, last), 2, 16, []int{4, 3}},
			{pt(10, 11), 4, 16, []int{3, 2, 5, 1}},
			// At the level 12 the first ones stand in one cell, whose box is 0 0 15 15.
			{pt(20, 20), 9, 12, []int{1, 2, 3, 5, 4}},
			{pt(last, 0), 3, 12, []int{1, 2, 3}},
			// At the level 13 the boxes are 0 0 7 7, 8 0 15 7 and 0 8 7 15.
			{pt(8, 9), 9, 13, []int{3, 2, 5, 1, 4}},
			{pt(7, 9), 9, 13, []int{3, 1, 2, 5, 4}},
			// At the level 1 the last one is in another quarter, at the level 0 all are as near.
			{pt(last, last), 9, 1, []int{4, 1, 2, 3, 5}},
			{pt(last, last), 9, 0, []int{1, 2, 3, 4, 5}},
			{pt(last, last), 2, 0, []int{1, 2}},
		} {
			var want []api.Record
			for _, id := range c.ids {
				want = append(want, l[id-1])
			}
			wantRecords(t, "Nearest", q.Nearest(c.p, c.n, c.level, nil), want)
		}
	}
}

func TestNearestOfAllLevels(t *testing.T) {
	r := rand.New(rand.NewSource(2))
	for _, bucket := range []int{1, 3, 64} {
		l := someRecords(r, 150)
		q := made(t, bucket, l...)
		for level := range 17 {
			for range 12 {
				p := spread(r)
				for _, n := range []int{1, 2, r.Intn(150) + 1, 150, 151, math.MaxInt} {
					wantRecords(t, "Nearest", q.Nearest(p, n, level, nil), model(l).nearest(p, n, level, nil))
				}
			}
		}
	}
}

func TestNearestKeeps(t *testing.T) {
	r := rand.New(rand.NewSource(3))
	l := someRecords(r, 120)
	q := made(t, 2, l...)
	for label := -1; label < 8; label++ {
		keep := func(r api.Record) bool { return r.Label <= label }
		for range 40 {
			p, n, level := spread(r), r.Intn(130)+1, r.Intn(17)
			wantRecords(t, "Nearest", q.Nearest(p, n, level, keep), model(l).nearest(p, n, level, keep))
		}
	}
	if got := q.Nearest(pt(7, 7), 9, 16, func(api.Record) bool { return false }); len(got) != 0 {
		t.Error("of none that is kept there are", got)
	}
}

func TestNearestAsksOfRecordsAsTheyStand(t *testing.T) {
	r := rand.New(rand.NewSource(4))
	l := someRecords(r, 80)
	q := made(t, 1, l...)
	asked := map[int]int{}
	q.Nearest(pt(100, 200), 80, 16, func(r api.Record) bool {
		if r != l[model(l).place(r.ID)] {
			t.Errorf("keep is asked of %v", r)
		}
		asked[r.ID]++
		return r.Label > 2
	})
	for id, n := range asked {
		if n != 1 {
			t.Errorf("keep is asked of %d %d times", id, n)
		}
	}
}

func TestNearestRefuses(t *testing.T) {
	q := made(t, 1, rec(1, 5, 9, 0), rec(2, 6, 9, 1))
	none := func(p api.Point, n, level int) {
		t.Helper()
		for _, keep := range []func(api.Record) bool{nil, func(api.Record) bool { return true }} {
			if l := q.Nearest(p, n, level, keep); len(l) != 0 {
				t.Errorf("Nearest(%v, %d, %d) is %v", p, n, level, l)
			}
		}
	}
	for _, p := range badPoints() {
		for _, level := range []int{0, 8, 16} {
			none(p, 2, level)
		}
	}
	for _, level := range append(badNumbers(), 17, 18, 64) {
		none(pt(5, 9), 2, level)
	}
	for _, n := range []int{0, -1, -2, math.MinInt, math.MinInt + 1} {
		none(pt(5, 9), n, 16)
	}
	wantHas(t, q, 1, model{rec(1, 5, 9, 0), rec(2, 6, 9, 1)})
}

// P1: what keep does does not end a call otherwise than by an answer.
func TestKeepThatPanics(t *testing.T) {
	l := []api.Record{rec(1, 5, 9, 0), rec(2, 6, 9, 1), rec(3, 7, 9, 2)}
	q := made(t, 1, l...)
	got := q.Nearest(pt(0, 0), 3, 16, func(r api.Record) bool {
		if r.ID == 2 {
			panic("no")
		}
		return true
	})
	wantRecords(t, "Nearest", got, []api.Record{l[0], l[2]})
	if got := q.Nearest(pt(0, 0), 3, 16, func(api.Record) bool { panic(nil) }); len(got) != 0 {
		t.Error("of none that is kept there are", got)
	}
	wantHas(t, q, 1, l)
}

func TestKeepThatAsksTheTree(t *testing.T) {
	r := rand.New(rand.NewSource(5))
	l := someRecords(r, 60)
	q := made(t, 1, l...)
	alone := func(r api.Record) bool { return model(l).window(rc(r.At.X, r.At.Y, r.At.X, r.At.Y))[0] == r }
	got := q.Nearest(pt(7, 7), 60, 14, func(r api.Record) bool {
		return q.Nearest(r.At, 1, 16, func(x api.Record) bool { return x.At == r.At })[0] == r
	})
	wantRecords(t, "Nearest", got, model(l).nearest(pt(7, 7), 60, 14, alone))
}

func TestKeepThatChangesTheTree(t *testing.T) {
	r := rand.New(rand.NewSource(6))
	for _, bucket := range []int{1, 3} {
		for _, level := range []int{0, 9, 16} {
			l := someRecords(r, 100)
			q := made(t, bucket, l...)
			got := q.Nearest(pt(101, 201), 100, level, func(r api.Record) bool {
				return q.Delete(r.ID) == api.OK
			})
			wantRecords(t, "Nearest, all of it taken out", got, model(l).nearest(pt(101, 201), 100, level, nil))
			wantEmpty(t, q)
			wantShape(t, q, 1, 0)

			q = made(t, bucket, l...)
			for range 5 {
				next := 1000
				q.Nearest(pt(101, 201), 500, level, func(x api.Record) bool {
					q.Insert(api.Record{ID: next, At: spread(r)})
					q.Change(api.Record{ID: x.ID, At: spread(r)})
					q.Delete(next - 3)
					next++
					return next%2 == 0
				})
			}
			wantHas(t, q, bucket, q.All())
		}
	}
}

// Trees that nobody changes may be asked by many at a time.
func TestAskedByMany(t *testing.T) {
	r := rand.New(rand.NewSource(7))
	l := someRecords(r, 100)
	q := made(t, 1, l...)
	var all sync.WaitGroup
	for range 4 {
		all.Go(func() {
			for range 20 {
				if len(q.Nearest(pt(1, 1), 100, 12, nil)) != 100 || len(q.All()) != 100 || q.Count(grid()) != 100 {
					t.Error("there are not all")
				}
			}
		})
	}
	all.Wait()
}

// P6.4

func TestNodesHangOnTheRecordsAlone(t *testing.T) {
	r := rand.New(rand.NewSource(8))
	for _, bucket := range []int{1, 2, 5, 64} {
		l := someRecords(r, 90)
		nodes, depth := model(l).nodes(bucket, 0, grid())
		for range 6 {
			r.Shuffle(len(l), func(i, j int) { l[i], l[j] = l[j], l[i] })
			wantShape(t, made(t, bucket, l...), nodes, depth)
			// The same records, from elsewhere, with others that come and go.
			q := made(t, bucket)
			for i, x := range l {
				wantErr(t, "Insert", q.Insert(api.Record{ID: x.ID, At: spread(r)}), api.OK)
				wantErr(t, "Insert", q.Insert(api.Record{ID: 100000 + i, At: spread(r)}), api.OK)
			}
			for i, x := range l {
				wantErr(t, "Delete", q.Delete(100000+i), api.OK)
				wantErr(t, "Change", q.Change(x), api.OK)
			}
			wantHas(t, q, bucket, l)
			wantShape(t, q, nodes, depth)
			wantRecords(t, "Nearest", q.Nearest(pt(9, 9), 90, 13, nil), made(t, bucket, l...).Nearest(pt(9, 9), 90, 13, nil))
		}
	}
}

// P6.5

func TestWindowsThatPartARectangle(t *testing.T) {
	r := rand.New(rand.NewSource(9))
	l := someRecords(r, 150)
	q := made(t, 2, l...)
	for range 300 {
		box := someRect(r)
		x, y := box.X0+r.Intn(box.X1-box.X0+1), box.Y0+r.Intn(box.Y1-box.Y0+1)
		var parts []api.Record
		count := 0
		for _, part := range []api.Rect{
			rc(box.X0, box.Y0, x, y), rc(x+1, box.Y0, box.X1, y), rc(box.X0, y+1, x, box.Y1), rc(x+1, y+1, box.X1, box.Y1),
		} {
			parts = append(parts, q.Window(part)...) // a part without points may not be, and has none
			count += q.Count(part)
		}
		wantRecords(t, "the parts", byID(parts), q.Window(box))
		if count != q.Count(box) {
			t.Fatalf("the parts of %v count %d, it counts %d", box, count, q.Count(box))
		}
	}
}
