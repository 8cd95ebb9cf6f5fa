package plan_test

import (
	"cmp"
	"math"
	"math/rand"
	"slices"
	"testing"

	"paravent/api"
	"paravent/cifquad"
	"paravent/grant"
	"paravent/plan"
	"paravent/ptquad"
)

const last = api.Side - 1

func rc(x0, y0, x1, y1 int) api.Rect { return api.Rect{X0: x0, Y0: y0, X1: x1, Y1: y1} }

func pt(x, y int) api.Point { return api.Point{X: x, Y: y} }

func grid() api.Rect { return rc(0, 0, last, last) }

func record(id, x, y, label int) api.Record {
	return api.Record{ID: id, At: pt(x, y), Label: label}
}

func shape(id int, box api.Rect, label int) api.Shape {
	return api.Shape{ID: id, Box: box, Label: label}
}

func seen(id, level int, box api.Rect) api.Seen {
	return api.Seen{ID: id, Level: level, Box: box}
}

// allow and limit are rules for all.
func allow(zoom int, boxes ...api.Rect) api.Rule {
	return api.Rule{Kind: api.DAllow, Roles: 255, Hi: 7, Labels: 255, Boxes: boxes, Zoom: zoom}
}

func limit(zoom int, boxes ...api.Rect) api.Rule {
	r := allow(zoom, boxes...)
	r.Kind = api.DCap
	return r
}

// of is a rule for one role, one tier and one label.
func of(r api.Rule, role, tier, label int) api.Rule {
	r.Roles, r.Lo, r.Hi, r.Labels = 1<<role, tier, tier, 1<<label
	return r
}

// full is the grant for all.
func full() api.Grant {
	return api.Grant{Ops: api.MayAll, Zoom: 16, Box: grid(), Until: api.MaxTick}
}

// none is a grant that is Void.
func none() api.Grant {
	return api.Grant{Ops: api.MayAll, Zoom: 16, Void: true, Until: api.MaxTick}
}

// by is a viewer with the grant for all.
func by(role, tier int) plan.Viewer {
	return plan.Viewer{Role: role, Tier: tier, Grant: full()}
}

// A model is the document's words: rules, records and shapes, all of which are gone through one by one.
type model struct {
	rules   []api.Rule
	records []api.Record
	shapes  []api.Shape
}

// zoomOf is the zoom of a point.
func (m model) zoomOf(v plan.Viewer, label int, p api.Point) int {
	bit := func(sum, n int) bool {
		return n >= 0 && n <= 7 && sum/[]int{1, 2, 4, 8, 16, 32, 64, 128}[n]%2 == 1
	}
	allowed, capped := 0, 16
	for _, r := range m.rules {
		for _, b := range r.Boxes {
			if !bit(r.Roles, v.Role) || v.Tier < r.Lo || v.Tier > r.Hi || !bit(r.Labels, label) {
				continue
			}
			if p.X < b.X0 || p.X > b.X1 || p.Y < b.Y0 || p.Y > b.Y1 {
				continue
			}
			if r.Kind == api.DAllow {
				allowed = max(allowed, r.Zoom)
			} else if r.Kind == api.DCap {
				capped = min(capped, r.Zoom)
			}
		}
	}
	return min(allowed, capped)
}

// zoomOfBox is the least zoom of a rectangle's points. Where rules begin or are over the zoom may change, nowhere else.
func (m model) zoomOfBox(v plan.Viewer, label int, box api.Rect) int {
	xs, ys := []int{box.X0}, []int{box.Y0}
	for _, r := range m.rules {
		for _, b := range r.Boxes {
			xs, ys = append(xs, b.X0, b.X1+1), append(ys, b.Y0, b.Y1+1)
		}
	}
	least := 16
	for _, y := range ys {
		for _, x := range xs {
			if x >= box.X0 && x <= box.X1 && y >= box.Y0 && y <= box.Y1 {
				least = min(least, m.zoomOf(v, label, pt(x, y)))
			}
		}
	}
	return least
}

// disclosed is what is seen of a rectangle of that zoom.
func disclosed(g api.Grant, id int, r api.Rect, zoom int) (api.Seen, bool) {
	level, side := 0, api.Side
	for level < zoom && level < g.Zoom {
		level, side = level+1, side/2
	}
	b := rc(r.X0/side*side, r.Y0/side*side, r.X1/side*side+side-1, r.Y1/side*side+side-1)
	if level == 0 || g.Void || b.X0 < g.Box.X0 || b.X1 > g.Box.X1 || b.Y0 < g.Box.Y0 || b.Y1 > g.Box.Y1 {
		return api.Seen{}, false
	}
	return seen(id, level, b), true
}

// see and seeCloak are what is seen of one.
func (m model) see(v plan.Viewer, r api.Record) (api.Seen, bool) {
	return disclosed(v.Grant, r.ID, rc(r.At.X, r.At.Y, r.At.X, r.At.Y), m.zoomOf(v, r.Label, r.At))
}

func (m model) seeCloak(v plan.Viewer, s api.Shape) (api.Seen, bool) {
	return disclosed(v.Grant, s.ID, s.Box, m.zoomOfBox(v, s.Label, s.Box))
}

// all and allCloaks are all that is seen.
func (m model) all(v plan.Viewer) []api.Seen {
	var l []api.Seen
	for _, r := range m.records {
		if s, ok := m.see(v, r); ok {
			l = append(l, s)
		}
	}
	return l
}

func (m model) allCloaks(v plan.Viewer) []api.Seen {
	var l []api.Seen
	for _, c := range m.shapes {
		if s, ok := m.seeCloak(v, c); ok {
			l = append(l, s)
		}
	}
	return l
}

// meeting are the first n of those that meet a rectangle, by the IDs.
func meeting(l []api.Seen, r api.Rect, n int) []api.Seen {
	var own []api.Seen
	for _, s := range l {
		if s.Box.X0 <= r.X1 && s.Box.X1 >= r.X0 && s.Box.Y0 <= r.Y1 && s.Box.Y1 >= r.Y0 {
			own = append(own, s)
		}
	}
	slices.SortFunc(own, func(a, b api.Seen) int { return cmp.Compare(a.ID, b.ID) })
	return own[:min(n, len(own))]
}

// nearest are the n nearest to a point, of the same by the IDs.
func nearest(l []api.Seen, p api.Point, n int) []api.Seen {
	own := slices.Clone(l)
	slices.SortFunc(own, func(a, b api.Seen) int {
		if x, y := apart(a.Box, p), apart(b.Box, p); x != y {
			return cmp.Compare(x, y)
		}
		return cmp.Compare(a.ID, b.ID)
	})
	return own[:min(n, len(own))]
}

// apart is how far a rectangle is from a point.
func apart(r api.Rect, p api.Point) int {
	x := max(r.X0-p.X, p.X-r.X1, 0)
	y := max(r.Y0-p.Y, p.Y-r.Y1, 0)
	return x*x + y*y
}

// world is a world of what a model has.
func (m model) world(t *testing.T, bucket int) plan.World {
	t.Helper()
	points, e := ptquad.New(bucket)
	table, f := grant.New(m.rules)
	if e != api.OK || f != api.OK {
		t.Fatalf("New: %d, %d of %v", e, f, m.rules)
	}
	w := plan.World{Points: points, Cloaks: cifquad.New(), Table: table}
	for _, r := range m.records {
		if e := w.Points.Insert(r); e != api.OK {
			t.Fatalf("Insert(%v): %d", r, e)
		}
	}
	for _, s := range m.shapes {
		if e := w.Cloaks.Put(s); e != api.OK {
			t.Fatalf("Put(%v): %d", s, e)
		}
	}
	return w
}

// wantWindow, wantNear and wantSee hold what is answered against what is wanted.
func wantSeen(t *testing.T, what string, got []api.Seen, e api.Errno, want []api.Seen) {
	t.Helper()
	if e != api.OK || !slices.Equal(got, want) {
		t.Fatalf("%s: %v, %d, want %v", what, got, e, want)
	}
}

func wantWindow(t *testing.T, w plan.World, v plan.Viewer, r api.Rect, m int, want ...api.Seen) {
	t.Helper()
	l, e := plan.Window(w, v, r, m)
	wantSeen(t, "Window", l, e, want)
}

func wantNear(t *testing.T, w plan.World, v plan.Viewer, p api.Point, m int, want ...api.Seen) {
	t.Helper()
	l, e := plan.Near(w, v, p, m)
	wantSeen(t, "Near", l, e, want)
}

func wantCloaks(t *testing.T, w plan.World, v plan.Viewer, r api.Rect, m int, want ...api.Seen) {
	t.Helper()
	l, e := plan.Cloaks(w, v, r, m)
	wantSeen(t, "Cloaks", l, e, want)
}

func wantNearCloaks(t *testing.T, w plan.World, v plan.Viewer, p api.Point, m int, want ...api.Seen) {
	t.Helper()
	l, e := plan.NearCloaks(w, v, p, m)
	wantSeen(t, "NearCloaks", l, e, want)
}

// wantOne holds what is seen of one against what is wanted.
func wantOne(t *testing.T, what string, got api.Seen, ok bool, want api.Seen, is bool) {
	t.Helper()
	if ok != is || got != want {
		t.Fatalf("%s: %v, %v, want %v, %v", what, got, ok, want, is)
	}
}

// wantModel holds what a world lets one see against its model.
func wantModel(t *testing.T, m model, w plan.World, v plan.Viewer, r api.Rect, p api.Point, n int) {
	t.Helper()
	wantWindow(t, w, v, r, n, meeting(m.all(v), r, n)...)
	wantNear(t, w, v, p, n, nearest(m.all(v), p, n)...)
	wantCloaks(t, w, v, r, n, meeting(m.allCloaks(v), r, n)...)
	wantNearCloaks(t, w, v, p, n, nearest(m.allCloaks(v), p, n)...)
	for _, x := range m.records {
		got, ok := plan.See(w, v, x)
		want, is := m.see(v, x)
		wantOne(t, "See", got, ok, want, is)
	}
	for _, x := range m.shapes {
		got, ok := plan.SeeCloak(w, v, x)
		want, is := m.seeCloak(v, x)
		wantOne(t, "SeeCloak", got, ok, want, is)
	}
}

// Some of all that there is, in a part of the grid: from a number on, so wide, in both ways.
type part struct{ from, wide int }

// parts are the grid, its ends and pieces of it.
func parts() []part {
	return []part{{0, api.Side}, {0, 8}, {api.Side - 8, 8}, {32768 - 6, 12}, {1000, 300}, {0, 5000}}
}

func (a part) point(r *rand.Rand) api.Point {
	return pt(a.from+r.Intn(a.wide), a.from+r.Intn(a.wide))
}

// rect is a rectangle, small or of any size.
func (a part) rect(r *rand.Rand) api.Rect {
	p, q := a.point(r), a.point(r)
	if r.Intn(2) == 0 {
		q = pt(min(p.X+r.Intn(1+a.wide/6), a.from+a.wide-1), min(p.Y+r.Intn(1+a.wide/6), a.from+a.wide-1))
	}
	return rc(min(p.X, q.X), min(p.Y, q.Y), max(p.X, q.X), max(p.Y, q.Y))
}

// rule is a rule, for many or for few, in the part or everywhere.
func (a part) rule(r *rand.Rand) api.Rule {
	x := allow(1 + r.Intn(16))
	switch r.Intn(4) {
	case 0:
		x.Kind = api.DCap
	case 1:
		x.Labels, x.Roles = r.Intn(256), r.Intn(256)|r.Intn(256)
	case 2:
		x.Hi = r.Intn(8)
		x.Lo = r.Intn(x.Hi + 1)
	}
	if r.Intn(12) == 0 {
		x.Zoom = 0
	}
	for range r.Intn(4) {
		x.Boxes = append(x.Boxes, a.rect(r))
	}
	if r.Intn(3) == 0 {
		x.Boxes = append(x.Boxes, grid())
	}
	return x
}

// model is a model with few rules and some records and shapes.
func (a part) model(r *rand.Rand) model {
	var m model
	for range 1 + r.Intn(7) {
		m.rules = append(m.rules, a.rule(r))
	}
	if r.Intn(3) > 0 {
		m.rules = append(m.rules, allow(4+r.Intn(13), grid()))
	}
	ids := someIDs(r, 70)
	for _, id := range ids[:r.Intn(70)] {
		p := a.point(r)
		m.records = append(m.records, record(id, p.X, p.Y, r.Intn(8)))
	}
	for _, id := range ids[:r.Intn(70)] {
		m.shapes = append(m.shapes, shape(id, a.rect(r), r.Intn(8)))
	}
	return m
}

// someIDs are numbers, each once: most of them users, some any number.
func someIDs(r *rand.Rand, n int) []int {
	ids := []int{0, -1, math.MinInt, math.MaxInt, 1 << 40}
	for len(ids) < n {
		if id := 1 + r.Intn(200); !slices.Contains(ids, id) {
			ids = append(ids, id)
		}
	}
	r.Shuffle(len(ids), func(i, j int) { ids[i], ids[j] = ids[j], ids[i] })
	return ids
}

// grant is a grant: for all, for less, or Void.
func (a part) grant(r *rand.Rand) api.Grant {
	g := full()
	g.Ops, g.Until = r.Intn(32), r.Intn(99)
	if r.Intn(2) == 0 {
		g.Zoom = r.Intn(17)
	}
	switch r.Intn(6) {
	case 0, 1:
		g.Box = a.rect(r)
	case 2:
		// Some whole cells more than that.
		side := 1 << r.Intn(16)
		b := a.rect(r)
		g.Box = rc(b.X0/side*side, b.Y0/side*side, b.X1/side*side+side-1, b.Y1/side*side+side-1)
	case 3:
		if r.Intn(3) == 0 {
			g.Box, g.Void = api.Rect{}, true
		}
	}
	return g
}

func (a part) viewer(r *rand.Rand) plan.Viewer {
	return plan.Viewer{Role: r.Intn(8), Tier: r.Intn(8), Grant: a.grant(r)}
}

// badRects may not be.
func badRects() []api.Rect {
	return []api.Rect{
		rc(1, 0, 0, 0), rc(0, 1, 0, 0), rc(-1, 0, 3, 3), rc(0, -1, 3, 3), rc(0, 0, api.Side, 3), rc(0, 0, 3, api.Side),
		rc(-1, -1, api.Side, api.Side), rc(api.Side, 0, api.Side, 0), rc(last, last, 0, 0), rc(-1<<62, 0, 1<<62, 0), rc(1<<62, 0, -1<<62, 0),
		rc(math.MinInt, math.MinInt, math.MaxInt, math.MaxInt), rc(math.MaxInt, math.MaxInt, math.MinInt, math.MinInt),
	}
}

// badPoints may not be.
func badPoints() []api.Point {
	return []api.Point{
		pt(-1, 0), pt(0, -1), pt(api.Side, 0), pt(0, api.Side), pt(-1, -1), pt(api.Side, api.Side), pt(1<<62, 0), pt(0, -1<<62),
		pt(math.MinInt, math.MinInt), pt(math.MaxInt, math.MaxInt), pt(math.MinInt, 3), pt(3, math.MaxInt),
	}
}

// badNumbers are no roles, tiers or labels.
func badNumbers() []int {
	return []int{-1, 8, 9, 63, 64, 255, 256, 1 << 32, 1 << 62, -8, -64, math.MinInt, math.MaxInt}
}

// badViewers may not be.
func badViewers() []plan.Viewer {
	var l []plan.Viewer
	for _, n := range badNumbers() {
		l = append(l, by(n, 2), by(2, n), by(n, n))
	}
	for _, g := range badGrants() {
		l = append(l, plan.Viewer{Role: 3, Tier: 2, Grant: g})
	}
	return l
}

// badGrants may not be.
func badGrants() []api.Grant {
	var l []api.Grant
	for _, n := range []int{-1, 32, 63, math.MinInt, math.MaxInt} {
		g := full()
		g.Ops = n
		l = append(l, g)
	}
	for _, n := range []int{-1, 17, 18, math.MinInt, math.MaxInt} {
		g := full()
		g.Zoom = n
		l = append(l, g)
	}
	for _, n := range []int{-1, api.MaxTick + 1, math.MinInt, math.MaxInt} {
		g := full()
		g.Until = n
		l = append(l, g)
	}
	for _, r := range badRects() {
		g := full()
		g.Box = r
		l = append(l, g)
	}
	g := full()
	g.Void = true
	return append(l, g)
}
