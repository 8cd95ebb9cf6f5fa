package grant_test

import (
	"math/rand"
	"slices"
	"sync"
	"testing"

	"paravent/api"
	"paravent/geom"
	"paravent/grant"
	"paravent/rules"
)

// P14.1

func TestExample(t *testing.T) {
	l := []api.Rule{allow(12, rc(0, 0, 9, 9)), limit(5, rc(5, 0, 9, 4))}
	wantAll(t, l, patch(0, 0, 4, 4, 12), patch(5, 0, 9, 4, 5), patch(0, 5, 9, 9, 12))
	if n := tableOf(t, l...).Of(3, 2, 1, rc(0, 0, 9, 9)); n != 5 {
		t.Error(n)
	}
}

func TestExampleAsAText(t *testing.T) {
	l, f := rules.Read("region w = 0 0 9 9; region c = 5 0 9 4; " +
		"allow role any tier any label any in w zoom 12; cap role any tier any label any in c zoom 5;")
	if f != (api.Fault{}) {
		t.Fatal(f)
	}
	wantAll(t, l, patch(0, 0, 4, 4, 12), patch(5, 0, 9, 4, 5), patch(0, 5, 9, 9, 12))
	if zooms := tableOf(t, l...).Levels(3, 2); !slices.Equal(zooms, []int{5, 12}) {
		t.Error(zooms)
	}
}

func TestNew(t *testing.T) {
	fine := allow(12, rc(0, 0, 9, 9))
	for _, l := range [][]api.Rule{nil, {}, {fine}, {{Kind: api.DCloak, Roles: 255}}, slices.Repeat([]api.Rule{fine}, api.MaxRules), {allow(0)}, {allow(16, slices.Repeat([]api.Rect{{}}, 1000)...)}} {
		tableOf(t, l...)
	}
	refused := func(want api.Errno, l ...api.Rule) {
		t.Helper()
		if table, e := grant.New(l); table != nil || e != want {
			t.Errorf("New(%v) = %v, %v, want %v", l, table, e, want)
		}
	}
	refused(api.ErrLong, slices.Repeat([]api.Rule{fine}, api.MaxRules+1)...)
	refused(api.ErrLong, make([]api.Rule, 1000)...)
	for _, bad := range badRules() {
		refused(api.ErrArg, bad)
		refused(api.ErrArg, fine, bad)
		refused(api.ErrArg, bad, fine)
		refused(api.ErrArg, append(slices.Repeat([]api.Rule{fine}, api.MaxRules-1), bad)...)
		// That there are too many is told first.
		refused(api.ErrLong, append(slices.Repeat([]api.Rule{fine}, api.MaxRules), bad)...)
	}
}

// badRules may not be.
func badRules() []api.Rule {
	cloak := api.Rule{Kind: api.DCloak, Roles: 1}
	var l []api.Rule
	for _, x := range []api.Rule{allow(3, api.Rect{}), limit(3, api.Rect{})} {
		for _, n := range []int{-1, 256, 1 << 40, -1 << 63} {
			a, b, c, d, e, f := x, x, x, x, x, x
			a.Kind, b.Roles, c.Labels, d.Lo, e.Hi, f.Zoom = n, n, n, n, n, n
			l = append(l, a, b, c, d, e, f)
		}
		a, b, c, d := x, x, x, x
		a.Hi, b.Lo, b.Hi, c.Zoom, d.Kind = 8, 4, 3, 17, api.DRegion
		l = append(l, a, b, c, d)
		for _, r := range badRects() {
			a.Hi, a.Boxes = 7, []api.Rect{{}, r}
			l = append(l, a)
		}
	}
	a, b, c, d, e := cloak, cloak, cloak, cloak, cloak
	a.Roles, b.Hi, c.Labels, d.Boxes, e.Zoom = 256, 7, 255, []api.Rect{{}}, 1
	return append(l, api.Rule{}, a, b, c, d, e)
}

func TestPatches(t *testing.T) {
	big := rc(0, 0, 9, 9)
	for _, c := range []struct {
		rules   []api.Rule
		patches []api.Patch
	}{
		{nil, nil},
		{[]api.Rule{{Kind: api.DCloak, Roles: 255}}, nil},
		{[]api.Rule{allow(12)}, nil},
		{[]api.Rule{allow(0, grid())}, nil},
		{[]api.Rule{limit(12, grid())}, nil},
		{[]api.Rule{allow(1, api.Rect{})}, []api.Patch{patch(0, 0, 0, 0, 1)}},
		{[]api.Rule{allow(16, grid())}, []api.Patch{patch(0, 0, last, last, 16)}},
		{[]api.Rule{allow(16, rc(last, last, last, last))}, []api.Patch{patch(last, last, last, last, 16)}},
		// Of those that allow, the greatest counts, of those that cap, the least.
		{[]api.Rule{allow(3, big), allow(7, big), allow(5, big)}, []api.Patch{patch(0, 0, 9, 9, 7)}},
		{[]api.Rule{allow(16, big), limit(3, big), limit(2, big), limit(5, big)}, []api.Patch{patch(0, 0, 9, 9, 2)}},
		{[]api.Rule{allow(3, big), limit(7, rc(2, 2, 3, 3)), limit(3, rc(5, 5, 5, 5)), limit(16, grid())}, []api.Patch{patch(0, 0, 9, 9, 3)}},
		{[]api.Rule{allow(3, big), limit(0, big)}, nil},
		{[]api.Rule{allow(3, big), limit(0, rc(0, 0, 9, 7), rc(0, 8, 8, 9))}, []api.Patch{patch(9, 8, 9, 9, 3)}},
		{[]api.Rule{allow(3, big), allow(9, rc(3, 3, 5, 5))}, []api.Patch{patch(0, 0, 9, 2, 3), patch(0, 3, 2, 5, 3), patch(3, 3, 5, 5, 9), patch(6, 3, 9, 5, 3), patch(0, 6, 9, 9, 3)}},
		{[]api.Rule{allow(9, big), allow(3, rc(3, 3, 5, 5))}, []api.Patch{patch(0, 0, 9, 9, 9)}},
		{[]api.Rule{allow(3, big), limit(0, rc(3, 3, 5, 5))}, []api.Patch{patch(0, 0, 9, 2, 3), patch(0, 3, 2, 5, 3), patch(6, 3, 9, 5, 3), patch(0, 6, 9, 9, 3)}},
		// Boxes of a rule that lie upon one another are no more than one.
		{[]api.Rule{allow(3, big, big, rc(2, 2, 4, 4)), limit(2, rc(0, 0, 9, 4), rc(0, 2, 9, 4))}, []api.Patch{patch(0, 0, 9, 4, 2), patch(0, 5, 9, 9, 3)}},
		// Points of one zoom that follow one another are one run, rows with the same runs one band, by whatever rules.
		{[]api.Rule{allow(4, rc(3, 0, 5, 0)), allow(4, rc(0, 0, 2, 0))}, []api.Patch{patch(0, 0, 5, 0, 4)}},
		{[]api.Rule{allow(4, rc(0, 3, 0, 5)), allow(4, rc(0, 0, 0, 2))}, []api.Patch{patch(0, 0, 0, 5, 4)}},
		{[]api.Rule{allow(4, rc(0, 0, 4, 0)), allow(8, rc(5, 0, 9, 0)), limit(4, rc(5, 0, 9, 0))}, []api.Patch{patch(0, 0, 9, 0, 4)}},
		{[]api.Rule{allow(4, rc(0, 0, 0, 4)), allow(8, rc(0, 5, 0, 9)), limit(4, rc(0, 5, 0, 9))}, []api.Patch{patch(0, 0, 0, 9, 4)}},
		{[]api.Rule{allow(4, rc(0, 0, last, 9), rc(0, 10, last, last))}, []api.Patch{patch(0, 0, last, last, 4)}},
		// Those of two zooms, or with others between them, are not.
		{[]api.Rule{allow(4, rc(3, 0, 5, 0)), allow(5, rc(0, 0, 2, 0))}, []api.Patch{patch(0, 0, 2, 0, 5), patch(3, 0, 5, 0, 4)}},
		{[]api.Rule{allow(4, rc(0, 3, 0, 5)), allow(5, rc(0, 0, 0, 2))}, []api.Patch{patch(0, 0, 0, 2, 5), patch(0, 3, 0, 5, 4)}},
		{[]api.Rule{allow(4, rc(4, 0, 5, 0), rc(0, 0, 2, 0))}, []api.Patch{patch(0, 0, 2, 0, 4), patch(4, 0, 5, 0, 4)}},
		{[]api.Rule{allow(4, rc(0, 4, 0, 5), rc(0, 0, 0, 2))}, []api.Patch{patch(0, 0, 0, 2, 4), patch(0, 4, 0, 5, 4)}},
		{[]api.Rule{allow(4, rc(0, 0, 2, 0)), allow(9, rc(1, 0, 1, 0))}, []api.Patch{patch(0, 0, 0, 0, 4), patch(1, 0, 1, 0, 9), patch(2, 0, 2, 0, 4)}},
		// A band has all the runs of its rows: what changes in one cuts the others, be it a zoom alone.
		{[]api.Rule{allow(4, rc(0, 0, 1, 9)), allow(4, rc(5, 0, 6, 4)), allow(6, rc(5, 5, 6, 9))}, []api.Patch{patch(0, 0, 1, 4, 4), patch(5, 0, 6, 4, 4), patch(0, 5, 1, 9, 4), patch(5, 5, 6, 9, 6)}},
		{[]api.Rule{allow(4, rc(0, 0, 1, 9), rc(5, 3, 6, 4))}, []api.Patch{patch(0, 0, 1, 2, 4), patch(0, 3, 1, 4, 4), patch(5, 3, 6, 4, 4), patch(0, 5, 1, 9, 4)}},
		{[]api.Rule{allow(4, rc(0, 0, 4, 0)), allow(4, rc(0, 1, 5, 1)), allow(4, rc(1, 2, 5, 2))}, []api.Patch{patch(0, 0, 4, 0, 4), patch(0, 1, 5, 1, 4), patch(1, 2, 5, 2, 4)}},
		// What is cut away by a cap is not seen beside it either.
		{[]api.Rule{allow(4, rc(2, 2, 3, 3)), limit(1, rc(0, 0, 2, 9))}, []api.Patch{patch(2, 2, 2, 3, 1), patch(3, 2, 3, 3, 4)}},
		// The bands from the least Y on, the runs from the least X on.
		{[]api.Rule{allow(1, rc(last, last, last, last)), allow(2, rc(0, last, 0, last)), allow(3, rc(last, 0, last, 0)), allow(4, rc(0, 0, 0, 0))}, []api.Patch{patch(0, 0, 0, 0, 4), patch(last, 0, last, 0, 3), patch(0, last, 0, last, 2), patch(last, last, last, last, 1)}},
	} {
		wantAll(t, c.rules, c.patches...)
		slices.Reverse(c.rules)
		wantAll(t, c.rules, c.patches...)
	}
}

func TestForWhomPatchesAre(t *testing.T) {
	l := []api.Rule{
		{Kind: api.DAllow, Roles: 1 << 3, Lo: 2, Hi: 4, Labels: 1<<0 | 1<<7, Boxes: []api.Rect{rc(0, 0, 9, 9)}, Zoom: 12},
		{Kind: api.DCap, Roles: 1<<0 | 1<<3, Lo: 4, Hi: 7, Labels: 1 << 7, Boxes: []api.Rect{rc(0, 0, 9, 9)}, Zoom: 5},
		{Kind: api.DCloak, Roles: 255},
	}
	table := tableOf(t, l...)
	for role := range 8 {
		for tier := range 8 {
			for label := range 8 {
				zoom := 0
				switch {
				case role != 3 || tier < 2 || tier > 4 || label != 0 && label != 7:
				case tier == 4 && label == 7:
					zoom = 5
				default:
					zoom = 12
				}
				var want []api.Patch
				if zoom > 0 {
					want = append(want, patch(0, 0, 9, 9, zoom))
				}
				wantPatches(t, table, role, tier, label, want...)
				if n := table.Zoom(role, tier, label, pt(9, 9)); n != zoom {
					t.Errorf("for %d %d %d the zoom of a point is %d, not %d", role, tier, label, n, zoom)
				}
				if n := table.Of(role, tier, label, rc(0, 0, 9, 9)); n != zoom {
					t.Errorf("for %d %d %d the zoom is %d, not %d", role, tier, label, n, zoom)
				}
			}
		}
	}
}

func TestForNoSuchRoleTierOrLabel(t *testing.T) {
	for _, l := range [][]api.Rule{nil, {allow(12, grid()), {Kind: api.DCloak, Roles: 255}}} {
		table := tableOf(t, l...)
		for _, n := range badNumbers() {
			for _, k := range [][3]int{{n, 0, 0}, {0, n, 0}, {0, 0, n}, {n, n, n}, {7, 7, n}, {7, n, 7}, {n, 7, 7}} {
				wantPatches(t, table, k[0], k[1], k[2])
				if z := table.Zoom(k[0], k[1], k[2], pt(0, 0)); z != 0 {
					t.Errorf("for %v the zoom of a point is %d", k, z)
				}
				if z := table.Of(k[0], k[1], k[2], api.Rect{}); z != 0 {
					t.Errorf("for %v the zoom is %d", k, z)
				}
			}
			if table.Cloaks(n) {
				t.Errorf("the role %d cloaks", n)
			}
			for _, k := range [][2]int{{n, 0}, {0, n}, {n, n}, {7, n}, {n, 7}} {
				if l := table.Levels(k[0], k[1]); len(l) != 0 {
					t.Errorf("for %v there are the zooms %v", k, l)
				}
			}
		}
	}
}

func TestZoomOfAPoint(t *testing.T) {
	table := tableOf(t, allow(12, rc(0, 0, 9, 9), grid()), limit(5, rc(5, 0, 9, 4)))
	for p, want := range map[api.Point]int{pt(0, 0): 12, pt(4, 4): 12, pt(5, 4): 5, pt(9, 0): 5, pt(10, 0): 12, pt(5, 5): 12, pt(last, last): 12, pt(-1, 0): 0, pt(0, -1): 0, pt(api.Side, 0): 0, pt(0, api.Side): 0, pt(-1<<63, 1<<63-1): 0} {
		if n := table.Zoom(0, 7, 3, p); n != want {
			t.Errorf("the zoom of %v is %d, not %d", p, n, want)
		}
	}
}

func TestCloaks(t *testing.T) {
	table := tableOf(t, api.Rule{Kind: api.DCloak, Roles: 1<<0 | 1<<7}, allow(12, grid()), api.Rule{Kind: api.DCloak, Roles: 1 << 3})
	for role := -1; role < 10; role++ {
		if want := role == 0 || role == 3 || role == 7; table.Cloaks(role) != want {
			t.Errorf("whether the role %d cloaks is not %v", role, want)
		}
	}
	if tableOf(t, allow(12, grid())).Cloaks(3) || tableOf(t).Cloaks(0) {
		t.Error("one cloaks without a rule")
	}
}

// TestPatchesOfManyBoxes: as many columns as rows, which are seen more closely, but where they cross.
func TestPatchesOfManyBoxes(t *testing.T) {
	const n = 200
	var columns, rows []api.Rect
	for i := range n {
		columns = append(columns, rc(4*i, 0, 4*i+1, last))
		rows = append(rows, rc(0, 4*i+2, last, 4*i+2))
	}
	cross := slices.Clone(columns)
	table := tableOf(t, allow(3, columns...), allow(9, rows...), limit(3, cross...))
	l := table.Patches(1, 1, 1)
	// A band of columns, then one of a row, which has runs between the columns too.
	if len(l) != n*n+n+n*2*n || l[0] != patch(0, 0, 1, 1, 3) || l[n-1] != patch(4*n-4, 0, 4*n-3, 1, 3) || l[n] != patch(0, 2, 1, 2, 3) || l[n+1] != patch(2, 2, 3, 2, 9) ||
		l[3*n-1] != patch(4*n-2, 2, last, 2, 9) || l[len(l)-1] != patch(4*n-4, 4*n-1, 4*n-3, last, 3) {
		t.Errorf("there are %d, from %v to %v", len(l), l[:4], l[len(l)-1])
	}
}

// TestAgainstAModel holds patches and zooms against the document's words.
func TestAgainstAModel(t *testing.T) {
	r := rand.New(rand.NewSource(1))
	most, bands, zooms := 0, 0, 0
	for range 2500 {
		l, g := someRules(r), someGlass(r)
		table := tableOf(t, g.rules(l)...)
		for range 4 {
			role, tier, label := someOne(r)
			p := plotted(l, role, tier, label)
			want := g.patches(formOf(p))
			wantPatches(t, table, role, tier, label, want...)
			if most = max(most, len(want)); len(want) > 1 && want[0].Box.Y0 < want[len(want)-1].Box.Y0 {
				bands++
			}
			if len(zoomsOf(want)) > 2 {
				zooms++
			}
			for range 10 {
				b := someRect(r)
				if n, least := table.Of(role, tier, label, g.rect(b)), leastOf(p, b); n != least {
					t.Errorf("for %d %d %d the zoom of %v is %d, not %d", role, tier, label, g.rect(b), n, least)
				}
			}
		}
		role, tier, label := someOne(r)
		wantZooms(t, table, g, plotted(l, role, tier, label), [3]int{role, tier, label})
		if t.Failed() {
			t.Fatal("of", g.rules(l))
		}
	}
	if most < 35 || bands < 4000 || zooms < 1000 {
		t.Error("too plain:", most, bands, zooms)
	}
}

// wantZooms tells of both corners of what each of the square's points has become.
func wantZooms(t *testing.T, table *grant.Table, g glass, p plot, k [3]int) {
	t.Helper()
	for y := range side {
		for x := range side {
			for _, at := range []api.Point{pt(g.x[x], g.y[y]), pt(g.x[x+1]-1, g.y[y+1]-1)} {
				if n := table.Zoom(k[0], k[1], k[2], at); n != p[y][x] {
					t.Fatalf("for %v the zoom of %v is %d, not %d", k, at, n, p[y][x])
				}
			}
		}
	}
}

// P14.2

func TestZoomOfARectangle(t *testing.T) {
	table := tableOf(t, allow(12, rc(0, 0, 9, 9)), limit(5, rc(5, 0, 9, 4)), allow(16, rc(10, 0, 19, 9)), allow(3, rc(0, 20, last, last)))
	for r, want := range map[api.Rect]int{
		{}: 12, rc(0, 0, 4, 9): 12, rc(4, 4, 4, 4): 12, rc(0, 5, 9, 9): 12, rc(4, 4, 5, 4): 5, rc(5, 4, 5, 5): 5, rc(9, 4, 9, 4): 5, rc(0, 0, 9, 9): 5,
		rc(10, 0, 19, 9): 16, rc(9, 5, 10, 9): 12, rc(9, 4, 10, 9): 5, rc(0, 0, 19, 9): 5, rc(0, 20, last, last): 3, rc(last, last, last, last): 3,
		rc(0, 0, 9, 10): 0, rc(0, 0, 20, 0): 0, rc(20, 0, 20, 0): 0, rc(19, 9, 20, 10): 0, rc(0, 19, last, last): 0, rc(0, 10, 0, 19): 0, grid(): 0, rc(0, 0, 0, 20): 0,
	} {
		if n := table.Of(2, 3, 4, r); n != want {
			t.Errorf("the zoom of %v is %d, not %d", r, n, want)
		}
	}
	for _, r := range badRects() {
		if n := table.Of(2, 3, 4, r); n != 0 {
			t.Errorf("the zoom of %v, which may not be, is %d", r, n)
		}
		if n := tableOf(t, allow(16, grid())).Of(2, 3, 4, r); n != 0 {
			t.Errorf("where all is allowed, the zoom of %v, which may not be, is %d", r, n)
		}
	}
	for zoom := range api.MaxLevel + 1 {
		if n := tableOf(t, allow(zoom, grid())).Of(0, 0, 0, grid()); n != zoom {
			t.Errorf("the zoom of the whole grid is %d, not %d", n, zoom)
		}
		if n := tableOf(t, allow(16, grid()), limit(zoom, rc(last, last, last, last))).Of(7, 7, 7, grid()); n != zoom {
			t.Errorf("the zoom of the grid with a point of less is %d, not %d", n, zoom)
		}
	}
}

func TestLevels(t *testing.T) {
	one := func(role, tier, label, zoom int, boxes ...api.Rect) api.Rule {
		return api.Rule{Kind: api.DAllow, Roles: 1 << role, Lo: tier, Hi: tier, Labels: 1 << label, Boxes: boxes, Zoom: zoom}
	}
	for _, c := range []struct {
		rules  []api.Rule
		levels []int
	}{
		{nil, nil},
		{[]api.Rule{allow(0, grid())}, nil},
		{[]api.Rule{allow(12)}, nil},
		{[]api.Rule{limit(12, grid())}, nil},
		{[]api.Rule{allow(1, grid())}, []int{1}},
		{[]api.Rule{allow(16, rc(9, 9, 9, 9))}, []int{16}},
		// Of any label, rising, each once.
		{[]api.Rule{one(3, 4, 0, 9, rc(0, 0, 1, 1)), one(3, 4, 7, 2, rc(0, 0, 1, 1)), one(3, 4, 5, 9, grid()), one(3, 4, 5, 16, rc(5, 5, 5, 5))}, []int{2, 9, 16}},
		// For the role and the tier alone.
		{[]api.Rule{one(2, 4, 0, 9, grid()), one(3, 5, 0, 8, grid()), one(4, 3, 0, 7, grid()), one(3, 3, 1, 6, grid()), one(3, 4, 1, 5, grid())}, []int{5}},
		// What lies under another one, or is capped all over, is not there; what a cap makes is.
		{[]api.Rule{allow(5, rc(0, 0, 9, 9)), allow(9, rc(0, 0, 9, 9))}, []int{9}},
		{[]api.Rule{allow(5, rc(0, 0, 9, 9)), allow(9, rc(0, 0, 8, 9))}, []int{5, 9}},
		{[]api.Rule{allow(9, rc(0, 0, 9, 9)), limit(4, rc(0, 0, 9, 8)), limit(3, rc(0, 9, 9, 9))}, []int{3, 4}},
		{[]api.Rule{allow(9, rc(0, 0, 9, 9)), limit(0, rc(0, 0, 9, 8))}, []int{9}},
	} {
		if got := tableOf(t, c.rules...).Levels(3, 4); !slices.Equal(got, c.levels) {
			t.Errorf("of %v: %v, want %v", c.rules, got, c.levels)
		}
	}
}

// TestLevelsAgainstAModel holds the zooms of all labels against the document's words.
func TestLevelsAgainstAModel(t *testing.T) {
	r := rand.New(rand.NewSource(2))
	many := 0
	for range 600 {
		l, g := someRules(r), someGlass(r)
		table := tableOf(t, g.rules(l)...)
		role, tier, _ := someOne(r)
		var all []api.Patch
		for label := range 8 {
			all = append(all, formOf(plotted(l, role, tier, label))...)
		}
		if got := table.Levels(role, tier); !slices.Equal(got, zoomsOf(all)) {
			t.Fatalf("for %d %d of %v: %v, want %v", role, tier, g.rules(l), got, zoomsOf(all))
		} else if len(got) > 2 {
			many++
		}
	}
	if many < 50 {
		t.Error("too plain:", many)
	}
}

func TestOfNoTable(t *testing.T) {
	var none *grant.Table
	for _, table := range []*grant.Table{none, {}} {
		for range 2 {
			for _, n := range append(badNumbers(), 0, 3, 7) {
				wantPatches(t, table, n, n, n)
				if table.Zoom(n, n, n, pt(n, n)) != 0 || table.Of(n, n, n, api.Rect{}) != 0 || table.Of(0, 0, 0, rc(n, n, n, n)) != 0 || len(table.Levels(n, n)) != 0 || table.Cloaks(n) {
					t.Error("it has something for", n)
				}
			}
		}
	}
}

// P14.3

func TestPatchesHaveNoPointInCommon(t *testing.T) {
	r := rand.New(rand.NewSource(3))
	for range 1500 {
		l, g := someRules(r), someGlass(r)
		table := tableOf(t, g.rules(l)...)
		role, tier, label := someOne(r)
		all := table.Patches(role, tier, label)
		for i, p := range all {
			for _, q := range all[:i] {
				if geom.Meets(p.Box, q.Box) {
					t.Fatalf("%v and %v have points in common", p, q)
				}
			}
			if n := table.Of(role, tier, label, p.Box); n != p.Zoom || n < 1 {
				t.Fatalf("%v has the zoom %d", p, n)
			}
		}
	}
}

// P14.4

func TestZoomsOfRectanglesInOneAnother(t *testing.T) {
	r := rand.New(rand.NewSource(4))
	less := 0
	for range 3000 {
		l, g := someRules(r), someGlass(r)
		l = append(l[:min(len(l), api.MaxRules-1)], allow(1+r.Intn(16), rc(0, 0, side-1, side-1)))
		table := tableOf(t, g.rules(l)...)
		role, tier, label := someOne(r)
		outer := someRect(r)
		x, y := outer.X0+r.Intn(outer.X1-outer.X0+1), outer.Y0+r.Intn(outer.Y1-outer.Y0+1)
		inner := rc(x, y, x+r.Intn(outer.X1-x+1), y+r.Intn(outer.Y1-y+1))
		n, m := table.Of(role, tier, label, g.rect(outer)), table.Of(role, tier, label, g.rect(inner))
		at := table.Zoom(role, tier, label, pt(g.x[x], g.y[y]))
		if n > m || m > at {
			t.Fatalf("%v has the zoom %d, %v in it %d, its corner %d", outer, n, inner, m, at)
		}
		if n < m {
			less++
		}
	}
	if less < 150 {
		t.Error("too plain:", less)
	}
}

// P14.5

func TestRulesThatLetSeeTheSame(t *testing.T) {
	r := rand.New(rand.NewSource(5))
	for range 800 {
		l, g := someRules(r), someGlass(r)
		all := g.rules(l)
		table := tableOf(t, all...)
		other := tableOf(t, otherwise(r, all)...)
		for role := range 8 {
			tier, label := r.Intn(8), r.Intn(8)
			wantPatches(t, other, role, tier, label, table.Patches(role, tier, label)...)
		}
		if t.Failed() {
			t.Fatal("of", all)
		}
	}
}

// otherwise are rules that let one see the same: in another order, their boxes cut and shuffled, some told by two rules.
func otherwise(r *rand.Rand, l []api.Rule) []api.Rule {
	all := copies(l)
	for i, x := range all {
		for j, b := range x.Boxes {
			if at := b.X0 + r.Intn(b.X1-b.X0+1); at < b.X1 && r.Intn(2) == 0 {
				x.Boxes[j].X1 = at
				x.Boxes = append(x.Boxes, rc(at+1, b.Y0, b.X1, b.Y1))
			}
		}
		r.Shuffle(len(x.Boxes), func(i, j int) { x.Boxes[i], x.Boxes[j] = x.Boxes[j], x.Boxes[i] })
		all[i] = x
		if n := len(x.Boxes); n > 1 && len(all) < api.MaxRules {
			more := x
			more.Boxes = slices.Clone(x.Boxes[n/2:])
			all[i].Boxes = x.Boxes[:n/2]
			all = append(all, more)
		}
	}
	if len(all) < api.MaxRules {
		all = append(all, limit(16, grid()))
	}
	r.Shuffle(len(all), func(i, j int) { all[i], all[j] = all[j], all[i] })
	return all
}

// Rules that hold everywhere

func TestWhatIsAnsweredIsNewMemory(t *testing.T) {
	table := tableOf(t, allow(12, rc(0, 0, 9, 9)), limit(5, rc(5, 0, 9, 4)))
	for range 3 {
		l := table.Patches(3, 2, 1)
		if !slices.Equal(l, []api.Patch{patch(0, 0, 4, 4, 12), patch(5, 0, 9, 4, 5), patch(0, 5, 9, 9, 12)}) {
			t.Error("what is answered is shared:", l)
		}
		clear(l)
		if n := table.Of(3, 2, 1, rc(0, 0, 9, 9)); n != 5 {
			t.Error("what is answered is shared with what is reckoned:", n)
		}
		levels := table.Levels(3, 2)
		if !slices.Equal(levels, []int{5, 12}) {
			t.Error("what is answered is shared:", levels)
		}
		clear(levels)
	}
}

func TestWhatIsHandedInIsNotKept(t *testing.T) {
	l := []api.Rule{allow(12, rc(0, 0, 9, 9)), limit(5, rc(5, 0, 9, 4)), {Kind: api.DCloak, Roles: 4}}
	early, late := tableOf(t, l...), tableOf(t, l...)
	early.Patches(3, 2, 1)
	l[0].Boxes[0], l[1].Boxes[0] = rc(0, 0, 99, 99), rc(-1, 5, 3, 3)
	l[0].Zoom, l[1], l[2].Roles = 1, api.Rule{}, 0
	for _, table := range []*grant.Table{early, late} {
		wantPatches(t, table, 3, 2, 1, patch(0, 0, 4, 4, 12), patch(5, 0, 9, 4, 5), patch(0, 5, 9, 9, 12))
		wantPatches(t, table, 3, 2, 5, patch(0, 0, 4, 4, 12), patch(5, 0, 9, 4, 5), patch(0, 5, 9, 9, 12))
		if table.Zoom(3, 2, 1, pt(9, 9)) != 12 || table.Zoom(3, 2, 1, pt(9, 4)) != 5 || table.Zoom(3, 2, 1, pt(10, 9)) != 0 || !table.Cloaks(2) {
			t.Error("what was handed in is kept")
		}
	}
}

func TestWhatIsHandedInIsNotChanged(t *testing.T) {
	r := rand.New(rand.NewSource(6))
	for range 300 {
		l := someRules(r)
		kept := copies(l)
		table := tableOf(t, l...)
		table.Patches(3, 2, 1)
		table.Zoom(3, 2, 1, pt(3, 3))
		table.Of(3, 2, 1, rc(1, 1, 3, 3))
		table.Levels(3, 2)
		table.Cloaks(3)
		if !sameRules(l, kept) {
			t.Fatal(l, "were", kept)
		}
	}
}

// TestInWhicheverOrderOneAsks: that patches are kept is not to be seen.
func TestInWhicheverOrderOneAsks(t *testing.T) {
	r := rand.New(rand.NewSource(7))
	for range 40 {
		l := someRules(r)
		table := tableOf(t, l...)
		for range 200 {
			role, tier, label := someOne(r)
			switch r.Intn(3) {
			case 0:
				wantPatches(t, table, role, tier, label, tableOf(t, l...).Patches(role, tier, label)...)
			case 1:
				if got, want := table.Levels(role, tier), tableOf(t, l...).Levels(role, tier); !slices.Equal(got, want) {
					t.Errorf("%v, want %v", got, want)
				}
			case 2:
				b := someRect(r)
				if got, want := table.Of(role, tier, label, b), tableOf(t, l...).Of(role, tier, label, b); got != want {
					t.Errorf("%v, want %v", got, want)
				}
			}
		}
		if t.Failed() {
			t.Fatal("of", l)
		}
	}
}

func TestAskedByMany(t *testing.T) {
	table := tableOf(t, allow(12, rc(0, 0, 9, 9)), limit(5, rc(5, 0, 9, 4)))
	var all sync.WaitGroup
	for n := range 4 {
		all.Go(func() {
			for i := range 200 {
				role, tier, label := (i+n)%8, i/8%8, i/64%8
				wantPatches(t, table, role, tier, label, patch(0, 0, 4, 4, 12), patch(5, 0, 9, 4, 5), patch(0, 5, 9, 9, 12))
				if table.Of(role, label, tier, rc(0, 0, 9, 9)) != 5 || table.Zoom(role, tier, label, pt(4, 4)) != 12 || !slices.Equal(table.Levels(tier, role), []int{5, 12}) {
					t.Error("not as alone")
				}
			}
		})
	}
	all.Wait()
}

// P1

// rulesOf makes rules of bytes, eight each: the most that may be, and some that may not.
func rulesOf(b []byte) []api.Rule {
	var l []api.Rule
	for len(b) >= 8 && len(l) < api.MaxRules+2 {
		x := api.Rule{Kind: api.DAllow + int(b[0])%3, Roles: 255 - int(b[1]%16), Hi: 7, Labels: 255, Zoom: int(b[2]) % 17}
		if x.Kind == api.DCloak {
			x.Hi, x.Labels, x.Zoom = 0, 0, 0
		} else {
			x.Boxes = []api.Rect{rc(int(b[3]), int(b[4]), int(b[3])+int(b[5]), int(b[4])+int(b[6]))}
		}
		switch b[7] {
		case 1:
			x.Lo = int(b[3])
		case 2:
			x.Hi = -int(b[3])
		case 3:
			x.Boxes = append(x.Boxes, rc(int(b[4]), int(b[3]), last, last))
		case 4:
			x.Boxes = append(x.Boxes, rc(0, 0, api.Side, int(b[3])))
		case 5:
			x.Zoom = int(b[4])
		case 6:
			x.Kind = int(b[3])
		}
		l, b = append(l, x), b[8:]
	}
	return l
}

func FuzzTable(f *testing.F) {
	f.Add([]byte("\x00\x00\x0c\x00\x00\x09\x09\x00\x01\x00\x05\x05\x00\x04\x04\x00"), 3, 2, 1, 0, 0, 9, 9)
	f.Add([]byte("\x00\x00\x0c\x00\x00\x09\x09\x03\x02\x00\x05\x05\x00\x04\x04\x00"), -1, 8, 1<<62, -1, 0, 65536, 9)
	f.Fuzz(func(t *testing.T, b []byte, role, tier, label, x0, y0, x1, y1 int) {
		l := rulesOf(b)
		table, e := grant.New(l)
		want := api.OK
		if len(l) > api.MaxRules {
			want = api.ErrLong
		} else if !rules.Right(l) {
			want = api.ErrArg
		}
		if e != want || (table == nil) != (e != api.OK) {
			t.Fatalf("New(%v) = %v, %v, want %v", l, table, e, want)
		}
		box, p := rc(x0, y0, x1, y1), pt(x0, y0)
		zoom := table.Zoom(role, tier, label, p)
		if e == api.OK && zoom != rules.Zoom(l, role, tier, label, p) || e != api.OK && zoom != 0 {
			t.Errorf("the zoom of %v is %d", p, zoom)
		}
		if of := table.Of(role, tier, label, box); of > zoom || of < 0 {
			t.Errorf("the zoom of %v is %d, of its corner %d", box, of, zoom)
		}
		if table.Of(role, tier, label, rc(x0, y0, x0, y0)) != zoom {
			t.Errorf("the zoom of %v is not %d", p, zoom)
		}
		levels, has := table.Levels(role, tier), 0
		for _, q := range table.Patches(role, tier, label) {
			if !slices.Contains(levels, q.Zoom) || q.Zoom < 1 || !geom.Right(q.Box) {
				t.Errorf("%v among the zooms %v", q, levels)
			}
			if geom.Has(q.Box, p) {
				has += q.Zoom
			}
		}
		if has != zoom {
			t.Errorf("patches have %v with the zoom %d, not %d", p, has, zoom)
		}
		if table.Cloaks(role) && e != api.OK {
			t.Error("one cloaks without a table")
		}
	})
}
