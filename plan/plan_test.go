package plan_test

import (
	"cmp"
	"math"
	"math/rand"
	"slices"
	"sync"
	"testing"

	"paravent/api"
	"paravent/cifquad"
	"paravent/geom"
	"paravent/grant"
	"paravent/plan"
	"paravent/ptquad"
	"paravent/token"
)

// one is a world in which one allows 14 in all, with a record and a cloak.
func one(t *testing.T) plan.World {
	t.Helper()
	return model{
		rules:   []api.Rule{allow(14, grid())},
		records: []api.Record{record(3, 5, 9, 1)},
		shapes:  []api.Shape{shape(3, rc(5, 9, 8, 9), 1)},
	}.world(t, 2)
}

func wantOK(t *testing.T, e api.Errno) {
	t.Helper()
	if e != api.OK {
		t.Fatalf("error %d", e)
	}
}

// zoomed, boxed and granted are a viewer with another grant.
func zoomed(v plan.Viewer, zoom int) plan.Viewer {
	v.Grant.Zoom = zoom
	return v
}

func boxed(v plan.Viewer, box api.Rect) plan.Viewer {
	v.Grant.Box = box
	return v
}

func granted(v plan.Viewer, g api.Grant) plan.Viewer {
	v.Grant = g
	return v
}

func TestExample(t *testing.T) {
	w, v := one(t), by(3, 2)
	got, ok := plan.See(w, v, record(3, 5, 9, 1))
	wantOne(t, "See", got, ok, seen(3, 14, rc(4, 8, 7, 11)), true)
	wantWindow(t, w, v, grid(), 9, seen(3, 14, rc(4, 8, 7, 11)))
	v = zoomed(v, 12)
	got, ok = plan.See(w, v, record(3, 5, 9, 1))
	wantOne(t, "See", got, ok, seen(3, 12, rc(0, 0, 15, 15)), true)
	wantNear(t, w, v, pt(99, 0), 9, seen(3, 12, rc(0, 0, 15, 15)))
}

// P21.1

func TestRight(t *testing.T) {
	for n := -2; n < 300; n++ {
		want := n >= 0 && n <= 7
		if plan.Right(by(n, 2)) != want || plan.Right(by(2, n)) != want || plan.Right(by(n, n)) != want {
			t.Errorf("the role or tier %d: not %v", n, want)
		}
	}
	for _, g := range []api.Grant{full(), none(), {}, {Zoom: 16}, {Ops: 31}, {Until: api.MaxTick}, {Box: rc(3, 4, 3, 4)}, {Void: true}} {
		if !plan.Right(plan.Viewer{Role: 7, Tier: 7, Grant: g}) {
			t.Errorf("with %v one may not be", g)
		}
	}
	for _, v := range badViewers() {
		if plan.Right(v) {
			t.Errorf("%v may be", v)
		}
	}
	if !plan.Right(plan.Viewer{}) {
		t.Error("the zero viewer may not be")
	}
}

func TestSeeAtEachLevel(t *testing.T) {
	for zoom := range 17 {
		w := model{rules: []api.Rule{allow(zoom, grid())}}.world(t, 1)
		for most := range 17 {
			v := zoomed(by(0, 7), most)
			for _, p := range []api.Point{pt(0, 0), pt(last, last), pt(0, last), pt(32767, 32768), pt(5, 9), pt(40000, 12345)} {
				level := min(zoom, most)
				side := 1 << (16 - level)
				want := seen(4, level, rc(p.X/side*side, p.Y/side*side, p.X/side*side+side-1, p.Y/side*side+side-1))
				if level == 0 {
					want = api.Seen{}
				}
				got, ok := plan.See(w, v, api.Record{ID: 4, At: p, Label: 3})
				wantOne(t, "See", got, ok, want, level > 0)
				got, ok = plan.SeeCloak(w, v, shape(4, rc(p.X, p.Y, p.X, p.Y), 3))
				wantOne(t, "SeeCloak", got, ok, want, level > 0)
			}
		}
	}
}

// The zoom is that of the role, the tier and the label.
func TestSeeForARoleATierAndALabel(t *testing.T) {
	w := model{rules: []api.Rule{of(allow(14, grid()), 3, 2, 1), of(allow(9, grid()), 3, 2, 4)}}.world(t, 1)
	for role := range 8 {
		for tier := range 8 {
			for label := -1; label < 9; label++ {
				want, is := api.Seen{}, role == 3 && tier == 2 && (label == 1 || label == 4)
				if is && label == 1 {
					want = seen(5, 14, rc(4, 8, 7, 11))
				} else if is {
					want = seen(5, 9, rc(0, 0, 127, 127))
				}
				got, ok := plan.See(w, by(role, tier), record(5, 5, 9, label))
				wantOne(t, "See", got, ok, want, is)
				got, ok = plan.SeeCloak(w, by(role, tier), shape(5, rc(5, 9, 6, 10), label))
				wantOne(t, "SeeCloak", got, ok, want, is)
			}
		}
	}
}

// The zoom of a cloak is that of its box, the least one, 0 where a point of it is not let see.
func TestSeeCloakByItsBox(t *testing.T) {
	w := model{rules: []api.Rule{allow(14, rc(0, 0, 99, 99)), limit(10, rc(40, 40, 49, 49))}}.world(t, 1)
	v := by(1, 1)
	for _, c := range []struct {
		box  api.Rect
		want api.Seen
	}{
		{rc(0, 0, 0, 0), seen(2, 14, rc(0, 0, 3, 3))},
		{rc(0, 0, 39, 99), seen(2, 14, rc(0, 0, 39, 99))},
		{rc(3, 4, 8, 9), seen(2, 14, rc(0, 4, 11, 11))},
		{rc(0, 0, 40, 39), seen(2, 14, rc(0, 0, 43, 39))},
		{rc(0, 0, 40, 40), seen(2, 10, rc(0, 0, 63, 63))},
		{rc(49, 49, 80, 80), seen(2, 10, rc(0, 0, 127, 127))},
		{rc(50, 49, 80, 80), seen(2, 14, rc(48, 48, 83, 83))},
		{rc(41, 41, 43, 43), seen(2, 10, rc(0, 0, 63, 63))},
		{rc(0, 0, 99, 99), seen(2, 10, rc(0, 0, 127, 127))},
		{rc(0, 0, 100, 99), api.Seen{}},
		{rc(0, 0, 99, 100), api.Seen{}},
		{rc(100, 0, 100, 0), api.Seen{}},
		{grid(), api.Seen{}},
	} {
		got, ok := plan.SeeCloak(w, v, shape(2, c.box, 5))
		wantOne(t, "SeeCloak", got, ok, c.want, c.want != api.Seen{})
	}
}

// The box is to be in the grant's Box as a whole.
func TestSeeInTheGrantsBox(t *testing.T) {
	w := one(t)
	for _, c := range []struct {
		box api.Rect
		is  bool
	}{
		{rc(4, 8, 7, 11), true}, {rc(0, 0, 7, 11), true}, {rc(4, 8, last, last), true}, {grid(), true},
		{rc(5, 8, 7, 11), false}, {rc(4, 9, 7, 11), false}, {rc(4, 8, 6, 11), false}, {rc(4, 8, 7, 10), false},
		{rc(5, 9, 5, 9), false}, {rc(0, 0, 3, 3), false}, {rc(8, 8, 11, 11), false},
	} {
		want := api.Seen{}
		if c.is {
			want = seen(3, 14, rc(4, 8, 7, 11))
		}
		v := boxed(by(3, 2), c.box)
		got, ok := plan.See(w, v, record(3, 5, 9, 1))
		wantOne(t, "See", got, ok, want, c.is)
		got, ok = plan.SeeCloak(w, v, shape(3, rc(5, 9, 6, 11), 1))
		wantOne(t, "SeeCloak", got, ok, want, c.is)
	}
	// With the lesser Zoom it is the box of that level that counts.
	v := zoomed(boxed(by(3, 2), rc(4, 8, 7, 11)), 13)
	got, ok := plan.See(w, v, record(3, 5, 9, 1))
	wantOne(t, "See", got, ok, api.Seen{}, false)
	v.Grant.Box = rc(0, 8, 7, 15)
	got, ok = plan.See(w, v, record(3, 5, 9, 1))
	wantOne(t, "See", got, ok, seen(3, 13, rc(0, 8, 7, 15)), true)
}

// A grant that is Void has the Box of the point 0 0, and lets one see nothing all the same.
func TestSeeWithAVoidGrant(t *testing.T) {
	m := model{rules: []api.Rule{allow(16, grid())}, records: []api.Record{record(3, 0, 0, 1)}, shapes: []api.Shape{shape(3, rc(0, 0, 0, 0), 1)}}
	w, v := m.world(t, 2), granted(by(3, 2), none())
	got, ok := plan.See(w, v, m.records[0])
	wantOne(t, "See", got, ok, api.Seen{}, false)
	got, ok = plan.SeeCloak(w, v, m.shapes[0])
	wantOne(t, "SeeCloak", got, ok, api.Seen{}, false)
	wantWindow(t, w, v, grid(), 9)
	wantNear(t, w, v, pt(0, 0), 9)
	wantCloaks(t, w, v, grid(), 9)
	wantNearCloaks(t, w, v, pt(0, 0), 9)
	v = boxed(by(3, 2), api.Rect{})
	got, ok = plan.See(w, v, m.records[0])
	wantOne(t, "See", got, ok, seen(3, 16, api.Rect{}), true)
	wantNearCloaks(t, w, v, pt(0, 0), 9, seen(3, 16, api.Rect{}))
}

// Rights and the last tick do not count here.
func TestSeeWhateverTheRights(t *testing.T) {
	w := one(t)
	for _, g := range []api.Grant{{Zoom: 16, Box: grid()}, {Ops: api.MayOwn, Zoom: 16, Box: grid()}, {Zoom: 16, Box: grid(), Until: 7}} {
		wantWindow(t, w, granted(by(3, 2), g), grid(), 9, seen(3, 14, rc(4, 8, 7, 11)))
		wantNearCloaks(t, w, granted(by(3, 2), g), pt(0, 0), 9, seen(3, 14, rc(4, 8, 11, 11)))
	}
}

func TestSeeNothing(t *testing.T) {
	w := one(t)
	nothing := func(w plan.World, v plan.Viewer, r api.Record, s api.Shape) {
		t.Helper()
		got, ok := plan.See(w, v, r)
		wantOne(t, "See", got, ok, api.Seen{}, false)
		got, ok = plan.SeeCloak(w, v, s)
		wantOne(t, "SeeCloak", got, ok, api.Seen{}, false)
	}
	r, s := record(3, 5, 9, 1), shape(3, rc(5, 9, 8, 9), 1)
	for _, v := range badViewers() {
		nothing(w, v, r, s)
	}
	for _, p := range badPoints() {
		nothing(w, by(3, 2), api.Record{ID: 3, At: p, Label: 1}, shape(3, rc(p.X, p.Y, p.X, p.Y), 1))
	}
	for _, b := range badRects() {
		nothing(w, by(3, 2), record(3, -1, 9, 1), shape(3, b, 1))
	}
	for _, n := range badNumbers() {
		nothing(w, by(3, 2), record(3, 5, 9, n), shape(3, rc(5, 9, 8, 9), n))
	}
	w.Table = nil
	nothing(w, by(3, 2), r, s)
	nothing(plan.World{}, by(3, 2), r, s)
	w.Table = &grant.Table{}
	nothing(w, by(3, 2), r, s)
}

// What is seen of one does not hang on the trees.
func TestSeeWithoutTrees(t *testing.T) {
	w := one(t)
	w.Points, w.Cloaks = nil, nil
	got, ok := plan.See(w, by(3, 2), record(-8, 5, 9, 1))
	wantOne(t, "See", got, ok, seen(-8, 14, rc(4, 8, 7, 11)), true)
	got, ok = plan.SeeCloak(w, by(3, 2), shape(70000, rc(5, 9, 8, 9), 1))
	wantOne(t, "SeeCloak", got, ok, seen(70000, 14, rc(4, 8, 11, 11)), true)
}

// P21.2, P21.3

// A call that is asked of a world, by a place that may be or may not.
type call func(w plan.World, v plan.Viewer, fits bool, m int) ([]api.Seen, api.Errno)

func calls() []call {
	box := func(fits bool) api.Rect {
		if fits {
			return grid()
		}
		return rc(1, 0, 0, 0)
	}
	at := func(fits bool) api.Point {
		if fits {
			return pt(last, 0)
		}
		return pt(0, api.Side)
	}
	return []call{
		func(w plan.World, v plan.Viewer, fits bool, m int) ([]api.Seen, api.Errno) {
			return plan.Window(w, v, box(fits), m)
		},
		func(w plan.World, v plan.Viewer, fits bool, m int) ([]api.Seen, api.Errno) {
			return plan.Near(w, v, at(fits), m)
		},
		func(w plan.World, v plan.Viewer, fits bool, m int) ([]api.Seen, api.Errno) {
			return plan.Cloaks(w, v, box(fits), m)
		},
		func(w plan.World, v plan.Viewer, fits bool, m int) ([]api.Seen, api.Errno) {
			return plan.NearCloaks(w, v, at(fits), m)
		},
	}
}

func TestErrors(t *testing.T) {
	w := one(t)
	noPoints, noCloaks, noTable := w, w, w
	noPoints.Points, noCloaks.Cloaks, noTable.Table = nil, nil, nil
	for i, ask := range calls() {
		want := func(w plan.World, v plan.Viewer, fits bool, m int, e api.Errno) {
			t.Helper()
			if l, got := ask(w, v, fits, m); got != e || e != api.OK && len(l) != 0 {
				t.Errorf("call %d: %v, %d, want %d", i, l, got, e)
			}
		}
		for _, part := range []plan.World{{}, noPoints, noCloaks, noTable, {Table: w.Table}, {Points: w.Points}, {Cloaks: w.Cloaks}} {
			want(part, by(3, 2), true, 9, api.ErrNil)
			want(part, by(8, 2), false, 65, api.ErrNil)
			want(part, by(3, 2), false, 9, api.ErrNil)
			want(part, by(3, 2), true, -1, api.ErrNil)
		}
		want(w, by(3, 2), false, 9, api.ErrArg)
		want(w, by(3, 2), false, 0, api.ErrArg)
		for _, v := range badViewers() {
			want(w, v, true, 9, api.ErrArg)
			want(w, v, true, 0, api.ErrArg)
		}
		for m := -1; m < 80; m++ {
			e := api.OK
			if m < 0 || m > 64 {
				e = api.ErrArg
			}
			want(w, by(3, 2), true, m, e)
		}
		for _, m := range []int{math.MinInt, math.MaxInt, 1 << 32, 65 + 256} {
			want(w, by(3, 2), true, m, api.ErrArg)
		}
	}
	for _, r := range badRects() {
		l, e := plan.Window(w, by(3, 2), r, 9)
		k, f := plan.Cloaks(w, by(3, 2), r, 9)
		if len(l)+len(k) != 0 || e != api.ErrArg || f != api.ErrArg {
			t.Errorf("in %v: %v, %d, %v, %d", r, l, e, k, f)
		}
	}
	for _, p := range badPoints() {
		l, e := plan.Near(w, by(3, 2), p, 9)
		k, f := plan.NearCloaks(w, by(3, 2), p, 9)
		if len(l)+len(k) != 0 || e != api.ErrArg || f != api.ErrArg {
			t.Errorf("near %v: %v, %d, %v, %d", p, l, e, k, f)
		}
	}
}

// A part that is there, though New did not make it, is one without anything.
func TestPartsThatNewDidNotMake(t *testing.T) {
	w := plan.World{Points: &ptquad.Tree{}, Cloaks: &cifquad.Tree{}, Table: &grant.Table{}}
	full := one(t)
	for _, x := range []plan.World{w, {Points: w.Points, Cloaks: w.Cloaks, Table: full.Table}, {Points: full.Points, Cloaks: full.Cloaks, Table: w.Table}} {
		for i, ask := range calls() {
			if l, e := ask(x, by(3, 2), true, 9); len(l) != 0 || e != api.OK {
				t.Errorf("call %d: %v, %d", i, l, e)
			}
		}
	}
}

// It is the box that is seen that meets the rectangle, not the record or the cloak itself.
func TestWindowOfWhatIsSeen(t *testing.T) {
	w, v := one(t), by(3, 2)
	point, box := seen(3, 14, rc(4, 8, 7, 11)), seen(3, 14, rc(4, 8, 11, 11))
	for _, r := range []api.Rect{rc(0, 0, 4, 8), rc(7, 0, 9, 8), rc(0, 11, 4, 30), rc(7, 11, 90, 90), rc(5, 9, 5, 9), rc(6, 6, 6, 8), grid()} {
		wantWindow(t, w, v, r, 9, point)
		wantCloaks(t, w, v, r, 9, box)
	}
	for _, r := range []api.Rect{rc(0, 0, 3, 99), rc(0, 0, 99, 7), rc(12, 0, 99, 99), rc(0, 12, 99, 99), rc(3, 7, 3, 7), rc(12, 12, last, last)} {
		wantWindow(t, w, v, r, 9)
		wantCloaks(t, w, v, r, 9)
	}
	wantWindow(t, w, v, rc(8, 8, 11, 11), 9)
	wantCloaks(t, w, v, rc(11, 11, 11, 11), 9, box)
	// Less closely it meets more.
	v = zoomed(v, 12)
	wantWindow(t, w, v, rc(15, 15, 20, 20), 9, seen(3, 12, rc(0, 0, 15, 15)))
	wantWindow(t, w, v, rc(16, 15, 20, 20), 9)
	wantCloaks(t, w, v, rc(15, 0, 20, 0), 9, seen(3, 12, rc(0, 0, 15, 15)))
}

// Records of several zooms stand in one answer, by the IDs.
func TestWindowByTheIDs(t *testing.T) {
	m := model{rules: []api.Rule{allow(16, rc(0, 0, 9, 9)), allow(14, rc(10, 0, 19, 9)), allow(11, rc(20, 0, 99, 9))}}
	for i, id := range []int{9, -3, 4, 70000, 0, math.MinInt, 5, math.MaxInt, 1} {
		m.records = append(m.records, record(id, 5+10*(i%3), i, i%8))
		m.shapes = append(m.shapes, shape(id, rc(5+10*(i%3), i, 6+10*(i%3), i), i%8))
	}
	w, v := m.world(t, 1), by(5, 5)
	want := []api.Seen{
		seen(math.MinInt, 11, rc(0, 0, 31, 31)), seen(-3, 14, rc(12, 0, 15, 3)), seen(0, 14, rc(12, 4, 15, 7)), seen(1, 11, rc(0, 0, 31, 31)),
		seen(4, 11, rc(0, 0, 31, 31)), seen(5, 16, rc(5, 6, 5, 6)), seen(9, 16, rc(5, 0, 5, 0)), seen(70000, 16, rc(5, 3, 5, 3)), seen(math.MaxInt, 14, rc(12, 4, 15, 7)),
	}
	cloaks := slices.Clone(want)
	for i, s := range cloaks {
		switch s.Level {
		case 16:
			cloaks[i].Box.X1++
		case 14:
			cloaks[i].Box.X1 = 19
		}
	}
	for n := range 12 {
		wantWindow(t, w, v, grid(), n, want[:min(n, 9)]...)
		wantCloaks(t, w, v, grid(), n, cloaks[:min(n, 9)]...)
	}
}

// It is the distance of the boxes that are seen that counts, of the same the IDs.
func TestNearByTheBoxes(t *testing.T) {
	m := model{
		rules: []api.Rule{allow(16, rc(0, 0, 99, 15)), allow(12, rc(0, 16, 99, 99))},
		records: []api.Record{
			record(8, 20, 4, 0), record(7, 12, 4, 1), // seen as they stand: 20 4 and 12 4
			record(6, 31, 31, 2), record(5, 17, 17, 3), // seen as 16 16 31 31
			record(4, 40, 20, 4),  // seen as 32 16 47 31
			record(-9, 200, 4, 5), // not seen
		},
	}
	for _, r := range m.records {
		m.shapes = append(m.shapes, shape(r.ID, rc(r.At.X, r.At.Y, r.At.X, r.At.Y), r.Label))
	}
	w, v := m.world(t, 1), by(0, 0)
	near := func(p api.Point, want ...api.Seen) {
		t.Helper()
		for n := range 9 {
			wantNear(t, w, v, p, n, want[:min(n, len(want))]...)
			wantNearCloaks(t, w, v, p, n, want[:min(n, len(want))]...)
		}
	}
	a, b := seen(8, 16, rc(20, 4, 20, 4)), seen(7, 16, rc(12, 4, 12, 4))
	c, d, e := seen(6, 12, rc(16, 16, 31, 31)), seen(5, 12, rc(16, 16, 31, 31)), seen(4, 12, rc(32, 16, 47, 31))
	near(pt(16, 4), b, a, d, c, e)      // 16, 16, 144, 144, 256 + 144
	near(pt(17, 10), d, c, a, b, e)     // 36, 36, 9 + 36, 25 + 36, 225 + 36
	near(pt(16, 16), d, c, b, a, e)     // 0, 0, 16 + 144, 16 + 144, 256
	near(pt(32, 20), e, d, c, a, b)     // 0, 1, 1, 144 + 256, 400 + 256
	near(pt(last, last), e, d, c, a, b) // far off
}

// Of each level there may be as many as of all.
func TestNearAllOfOneLevel(t *testing.T) {
	m := model{rules: []api.Rule{allow(16, rc(0, 0, 255, 9)), allow(3, rc(0, 32768, last, last))}}
	for i := range 100 {
		m.records = append(m.records, record(200-i, i, 0, i%8), record(1000+i, i, 40000, i%8))
		m.shapes = append(m.shapes, shape(200-i, rc(i, 0, i+1, 0), i%8), shape(1000+i, rc(i, 40000, i, 40001), i%8))
	}
	w, v := m.world(t, 4), by(2, 2)
	for _, n := range []int{1, 2, 63, 64} {
		for _, p := range []api.Point{pt(0, 0), pt(50, 3), pt(9, 32767), pt(9, 32768), pt(last, last)} {
			wantModel(t, m, w, v, grid(), p, n)
		}
		wantModel(t, m, w, zoomed(v, 3), rc(0, 0, 0, 0), pt(0, last), n)
		wantModel(t, m, w, zoomed(v, 2), rc(last, last, last, last), pt(0, last), n)
	}
	if l, e := plan.Near(w, v, pt(0, 0), 64); e != api.OK || l[0].ID != 200 || l[63].ID != 137 {
		t.Error(l, e)
	}
}

func TestAtRandom(t *testing.T) {
	r := rand.New(rand.NewSource(1))
	for range 25 {
		for _, a := range parts() {
			m := a.model(r)
			w := m.world(t, 1+r.Intn(5))
			for range 4 {
				wantModel(t, m, w, a.viewer(r), a.rect(r), a.point(r), r.Intn(65))
			}
		}
	}
}

// What is answered hangs on the world as it stands by then.
func TestWorldsThatChange(t *testing.T) {
	r := rand.New(rand.NewSource(2))
	a := part{0, 40}
	m := a.model(r)
	m.rules = append(m.rules, allow(15, grid()))
	m.records, m.shapes = nil, nil
	w := m.world(t, 2)
	for i := range 250 {
		p := a.point(r)
		x, s := record(i%40, p.X, p.Y, r.Intn(8)), shape(i%40, a.rect(r), r.Intn(8))
		at := slices.IndexFunc(m.records, func(r api.Record) bool { return r.ID == x.ID })
		if at >= 0 {
			m.records[at], m.shapes[at] = x, s
			wantOK(t, w.Points.Change(x))
		} else {
			m.records, m.shapes = append(m.records, x), append(m.shapes, s)
			wantOK(t, w.Points.Insert(x))
		}
		wantOK(t, w.Cloaks.Put(s))
		if i%7 == 6 {
			at := r.Intn(len(m.records))
			id := m.records[at].ID
			wantOK(t, w.Points.Delete(id))
			wantOK(t, w.Cloaks.Take(id))
			m.records, m.shapes = slices.Delete(m.records, at, at+1), slices.Delete(m.shapes, at, at+1)
		}
		wantModel(t, m, w, a.viewer(r), a.rect(r), a.point(r), r.Intn(65))
	}
}

// P21.4

func TestWhatIsToldIsThere(t *testing.T) {
	r := rand.New(rand.NewSource(3))
	for range 12 {
		for _, a := range parts() {
			m := a.model(r)
			w, v := m.world(t, 2), a.viewer(r)
			for i, ask := range calls() {
				l, e := ask(w, v, true, api.MaxM)
				wantOK(t, e)
				for _, s := range l {
					x, there := w.Points.Find(s.ID)
					got, ok := plan.See(w, v, x)
					if i >= 2 {
						var c api.Shape
						c, there = w.Cloaks.Find(s.ID)
						got, ok = plan.SeeCloak(w, v, c)
					}
					if !there {
						t.Fatalf("call %d tells %v, which is not there", i, s)
					}
					wantOne(t, "See", got, ok, s, true)
				}
			}
		}
	}
}

// Nothing is told twice, nor anything left out.
func TestAllThatIsSeenIsTold(t *testing.T) {
	r := rand.New(rand.NewSource(4))
	for range 12 {
		for _, a := range parts() {
			m := a.model(r)
			m.records, m.shapes = m.records[:min(64, len(m.records))], m.shapes[:min(64, len(m.shapes))]
			w, v := m.world(t, 2), a.viewer(r)
			for i, ask := range calls() {
				l, e := ask(w, v, true, api.MaxM)
				wantOK(t, e)
				slices.SortFunc(l, func(a, b api.Seen) int { return cmp.Compare(a.ID, b.ID) })
				want := meeting(m.all(v), grid(), 64)
				if i >= 2 {
					want = meeting(m.allCloaks(v), grid(), 64)
				}
				wantSeen(t, "all", l, e, want)
			}
		}
	}
}

// P21.5

func TestTheFirstAreThoseOfMore(t *testing.T) {
	r := rand.New(rand.NewSource(5))
	for range 8 {
		for _, a := range parts() {
			w, v := a.model(r).world(t, 2), a.viewer(r)
			for i, ask := range calls() {
				more, e := ask(w, v, true, api.MaxM)
				wantOK(t, e)
				for m := range api.MaxM + 1 {
					l, e := ask(w, v, true, m)
					wantOK(t, e)
					if !slices.Equal(l, more[:min(m, len(more))]) {
						t.Fatalf("call %d: the first %d are %v, of %v", i, m, l, more)
					}
				}
			}
		}
	}
}

// P21.6

func TestANarrowerGrant(t *testing.T) {
	r := rand.New(rand.NewSource(6))
	for range 25 {
		for _, a := range parts() {
			m := a.model(r)
			m.records, m.shapes = m.records[:min(64, len(m.records))], m.shapes[:min(64, len(m.shapes))]
			w, v := m.world(t, 2), a.viewer(r)
			few := granted(v, token.Meet(v.Grant, a.grant(r)))
			if !token.Narrower(few.Grant, v.Grant) {
				t.Fatalf("%v is not narrower than %v", few.Grant, v.Grant)
			}
			for i, ask := range calls() {
				l, e := ask(w, few, true, api.MaxM)
				more, f := ask(w, v, true, api.MaxM)
				if e != api.OK || f != api.OK {
					t.Fatal(e, f)
				}
				for _, s := range l {
					at := slices.IndexFunc(more, func(x api.Seen) bool { return x.ID == s.ID })
					if at < 0 || s.Level > more[at].Level || !geom.In(more[at].Box, s.Box) || s.Level == more[at].Level && s != more[at] {
						t.Fatalf("call %d: with less one sees %v, of %v", i, s, more)
					}
				}
			}
		}
	}
}

// P21.7: what is not seen does not count, nor where within a cell someone is, nor what else the rules say.
func TestAnswersHangOnWhatIsSeen(t *testing.T) {
	r := rand.New(rand.NewSource(7))
	for range 25 {
		for _, a := range parts() {
			m := a.model(r)
			v := a.viewer(r)
			wide := granted(v, full())
			other := twin(r, a, m, wide)
			w, x := m.world(t, 2), other.world(t, 9)
			box, p, n := a.rect(r), a.point(r), r.Intn(65)
			l, e := plan.Window(w, v, box, n)
			wantSeen(t, "Window", l, e, meeting(other.all(v), box, n))
			wantWindow(t, x, v, box, n, l...)
			l, e = plan.Near(w, v, p, n)
			wantSeen(t, "Near", l, e, nearest(other.all(v), p, n))
			wantNear(t, x, v, p, n, l...)
			l, _ = plan.Cloaks(w, v, box, n)
			wantCloaks(t, x, v, box, n, l...)
			l, _ = plan.NearCloaks(w, v, p, n)
			wantNearCloaks(t, x, v, p, n, l...)
		}
	}
}

// twin is a model of which one sees the same: its rules stand in another order, and those of other roles are others;
// some whom one does not see are gone, others have come, and those whom one sees stand elsewhere in what is seen of them.
func twin(r *rand.Rand, a part, m model, v plan.Viewer) model {
	other := model{rules: slices.Clone(m.rules)}
	other.rules = append(other.rules, of(allow(16, grid()), (v.Role+1)%8, v.Tier, 3), of(limit(1, grid()), v.Role, (v.Tier+1)%8, 3))
	r.Shuffle(len(other.rules), func(i, j int) { other.rules[i], other.rules[j] = other.rules[j], other.rules[i] })
	for _, x := range m.records {
		s, ok := m.see(v, x)
		for range 20 {
			y := x
			y.At = pt(s.Box.X0+r.Intn(s.Box.X1-s.Box.X0+1), s.Box.Y0+r.Intn(s.Box.Y1-s.Box.Y0+1))
			y.Label = r.Intn(8)
			if now, is := m.see(v, y); ok && is && now == s {
				x = y
			}
		}
		if ok || r.Intn(2) == 0 {
			other.records = append(other.records, x)
		}
	}
	for _, c := range m.shapes {
		if _, ok := m.seeCloak(v, c); ok || r.Intn(2) == 0 {
			other.shapes = append(other.shapes, c)
		}
	}
	for i := range 30 {
		p := a.point(r)
		x, c := record(10000+i, p.X, p.Y, r.Intn(8)), shape(10000+i, a.rect(r), r.Intn(8))
		if _, ok := m.see(v, x); !ok {
			other.records = append(other.records, x)
		}
		if _, ok := m.seeCloak(v, c); !ok {
			other.shapes = append(other.shapes, c)
		}
	}
	return other
}

// Rule 3

func TestNothingIsShared(t *testing.T) {
	w, v := one(t), by(3, 2)
	for range 3 {
		for i, ask := range calls() {
			l, e := ask(w, v, true, 9)
			if want := seen(3, 14, rc(4, 8, 7+i/2*4, 11)); e != api.OK || len(l) != 1 || l[0] != want {
				t.Errorf("call %d: %v, %d, want %v", i, l, e, want)
			}
			clear(l)
			_ = append(l, api.Seen{ID: 9})
		}
	}
}

// A search changes nothing.
func TestWorldsStayAsTheyAre(t *testing.T) {
	r := rand.New(rand.NewSource(8))
	a := part{0, 300}
	m := a.model(r)
	w := m.world(t, 2)
	points, cloaks, nodes, homes := w.Points.All(), w.Cloaks.All(), w.Points.Nodes(), w.Cloaks.Nodes()
	for range 50 {
		for _, ask := range calls() {
			_, _ = ask(w, a.viewer(r), true, r.Intn(66))
		}
	}
	if !slices.Equal(w.Points.All(), points) || !slices.Equal(w.Cloaks.All(), cloaks) || w.Points.Nodes() != nodes || w.Cloaks.Nodes() != homes {
		t.Error("a search changes the world")
	}
}

func TestAskedByMany(t *testing.T) {
	r := rand.New(rand.NewSource(9))
	a := part{0, 300}
	m := a.model(r)
	w := m.world(t, 2)
	var all sync.WaitGroup
	for n := range 4 {
		all.Go(func() {
			r := rand.New(rand.NewSource(int64(n)))
			for range 20 {
				v, box := a.viewer(r), a.rect(r)
				if l, e := plan.Window(w, v, box, 30); e != api.OK || !slices.Equal(l, meeting(m.all(v), box, 30)) {
					t.Error("not as alone")
				}
			}
		})
	}
	all.Wait()
}

// P1

func TestWildArguments(t *testing.T) {
	w := one(t)
	wild := []int{math.MinInt, math.MinInt + 1, -1 << 32, -1, 0, 1, 7, 8, 16, 17, 64, 65, last, api.Side, 1 << 32, math.MaxInt - 1, math.MaxInt}
	r := rand.New(rand.NewSource(10))
	some := func() int { return wild[r.Intn(len(wild))] }
	for range 20000 {
		v := plan.Viewer{Role: some(), Tier: some(), Grant: api.Grant{Ops: some(), Zoom: some(), Box: rc(some(), some(), some(), some()), Void: r.Intn(2) == 0, Until: some()}}
		if r.Intn(2) == 0 {
			v = by(3, 2)
		}
		world := w
		if r.Intn(4) == 0 {
			world = []plan.World{{}, {Points: w.Points}, {Cloaks: w.Cloaks}, {Table: w.Table}, {Points: &ptquad.Tree{}, Cloaks: &cifquad.Tree{}, Table: &grant.Table{}}}[r.Intn(5)]
		}
		box, p, m := rc(some(), some(), some(), some()), pt(some(), some()), some()
		if s, ok := plan.See(world, v, api.Record{ID: some(), At: p, Label: some()}); ok && (!geom.Has(s.Box, p) || !plan.Right(v)) {
			t.Fatalf("of %v %v is seen by %v", p, s, v)
		}
		if s, ok := plan.SeeCloak(world, v, shape(some(), box, some())); ok && (!geom.In(box, s.Box) || !plan.Right(v)) {
			t.Fatalf("of %v %v is seen by %v", box, s, v)
		}
		l1, e1 := plan.Window(world, v, box, m)
		l2, e2 := plan.Near(world, v, p, m)
		l3, e3 := plan.Cloaks(world, v, box, m)
		l4, e4 := plan.NearCloaks(world, v, p, m)
		for i, e := range []api.Errno{e1, e2, e3, e4} {
			want := api.OK
			if world.Points == nil || world.Cloaks == nil || world.Table == nil {
				want = api.ErrNil
			} else if !plan.Right(v) || m < 0 || m > 64 || i%2 == 0 && !geom.Right(box) || i%2 == 1 && !geom.Fits(p) {
				want = api.ErrArg
			}
			if e != want {
				t.Fatalf("call %d: %d, want %d", i, e, want)
			}
		}
		if m < 1 && len(l1)+len(l2)+len(l3)+len(l4) > 0 {
			t.Fatal("more than none")
		}
	}
}
