package grant_test

import (
	"math/rand"
	"slices"
	"testing"

	"paravent/api"
	"paravent/grant"
)

const last = api.Side - 1

func rc(x0, y0, x1, y1 int) api.Rect { return api.Rect{X0: x0, Y0: y0, X1: x1, Y1: y1} }

func pt(x, y int) api.Point { return api.Point{X: x, Y: y} }

func grid() api.Rect { return rc(0, 0, last, last) }

// patch is a patch by its rectangle and zoom.
func patch(x0, y0, x1, y1, zoom int) api.Patch {
	return api.Patch{Box: rc(x0, y0, x1, y1), Zoom: zoom}
}

// allow and limit are rules for all.
func allow(zoom int, boxes ...api.Rect) api.Rule {
	return api.Rule{Kind: api.DAllow, Roles: 255, Hi: 7, Labels: 255, Boxes: boxes, Zoom: zoom}
}

func limit(zoom int, boxes ...api.Rect) api.Rule {
	r := allow(zoom, boxes...)
	r.Kind = api.DCap
	return r
}

// A model is the document's words: rules with boxes of a small square, whose points are gone through one by one.

// side is the side of the square.
const side = 9

// plot are the zooms of its points.
type plot [side][side]int

// isFor tells whether a rule is for a role, a tier and a label.
func isFor(r api.Rule, role, tier, label int) bool {
	bit := func(sum, n int) bool { return n >= 0 && n < 8 && sum/[]int{1, 2, 4, 8, 16, 32, 64, 128}[n]%2 == 1 }
	return bit(r.Roles, role) && tier >= r.Lo && tier <= r.Hi && bit(r.Labels, label)
}

// plotted are the zooms for a role, a tier and a label.
func plotted(l []api.Rule, role, tier, label int) plot {
	var p plot
	for y := range side {
		for x := range side {
			allowed, capped := 0, 16
			for _, r := range l {
				for _, b := range r.Boxes {
					if !isFor(r, role, tier, label) || x < b.X0 || x > b.X1 || y < b.Y0 || y > b.Y1 {
						continue
					}
					if r.Kind == api.DAllow {
						allowed = max(allowed, r.Zoom)
					} else if r.Kind == api.DCap {
						capped = min(capped, r.Zoom)
					}
				}
			}
			p[y][x] = min(allowed, capped)
		}
	}
	return p
}

// formOf are the patches of a plot.
func formOf(p plot) []api.Patch {
	var l []api.Patch
	for y0 := 0; y0 < side; {
		y1 := y0
		for y1+1 < side && p[y1+1] == p[y0] {
			y1++
		}
		for x0 := 0; x0 < side; {
			x1 := x0
			for x1+1 < side && p[y0][x1+1] == p[y0][x0] {
				x1++
			}
			if p[y0][x0] > 0 {
				l = append(l, patch(x0, y0, x1, y1, p[y0][x0]))
			}
			x0 = x1 + 1
		}
		y0 = y1 + 1
	}
	return l
}

// leastOf is the least zoom of a rectangle's points.
func leastOf(p plot, r api.Rect) int {
	least := 16
	for y := r.Y0; y <= r.Y1; y++ {
		for x := r.X0; x <= r.X1; x++ {
			least = min(least, p[y][x])
		}
	}
	return least
}

// zoomsOf are the zooms of patches, rising, each once.
func zoomsOf(l []api.Patch) []int {
	var zooms []int
	for _, p := range l {
		zooms = append(zooms, p.Zoom)
	}
	slices.Sort(zooms)
	return slices.Compact(zooms)
}

// glass lays the square upon the grid: each of its points is as many of the grid's, in one or in both ways. What is form stays form.
type glass struct{ x, y [side + 1]int }

func someGlass(r *rand.Rand) glass {
	return glass{x: someSteps(r), y: someSteps(r)}
}

// someSteps are where the columns or rows begin, and where the last one is over: at the grid's beginning, at its end, somewhere or all over it.
func someSteps(r *rand.Rand) [side + 1]int {
	var s [side + 1]int
	switch n := r.Intn(4); n {
	case 0, 1, 2:
		from := []int{0, api.Side - side, r.Intn(api.Side - side)}[n]
		for i := range s {
			s[i] = from + i
		}
	case 3:
		// One step of each eighth of the grid, of which none is empty.
		for i := 1; i < side; i++ {
			s[i] = (i-1)*(api.Side/(side-1)) + 1 + r.Intn(api.Side/(side-1)-1)
		}
		s[side] = api.Side
	}
	return s
}

func (g glass) rect(r api.Rect) api.Rect {
	return rc(g.x[r.X0], g.y[r.Y0], g.x[r.X1+1]-1, g.y[r.Y1+1]-1)
}

func (g glass) patches(l []api.Patch) []api.Patch {
	var all []api.Patch
	for _, p := range l {
		all = append(all, api.Patch{Box: g.rect(p.Box), Zoom: p.Zoom})
	}
	return all
}

func (g glass) rules(l []api.Rule) []api.Rule {
	all := copies(l)
	for _, r := range all {
		for i, b := range r.Boxes {
			r.Boxes[i] = g.rect(b)
		}
	}
	return all
}

// copies are rules that share no memory with others.
func copies(l []api.Rule) []api.Rule {
	all := slices.Clone(l)
	for i, r := range all {
		all[i].Boxes = slices.Clone(r.Boxes)
	}
	return all
}

func sameRules(a, b []api.Rule) bool {
	return slices.EqualFunc(a, b, func(x, y api.Rule) bool {
		return x.Kind == y.Kind && x.Roles == y.Roles && x.Lo == y.Lo && x.Hi == y.Hi && x.Labels == y.Labels && x.Zoom == y.Zoom && slices.Equal(x.Boxes, y.Boxes)
	})
}

// Some of all that there is.

func someRect(r *rand.Rand) api.Rect {
	x0, y0 := r.Intn(side), r.Intn(side)
	return rc(x0, y0, x0+r.Intn(side-x0), y0+r.Intn(side-y0))
}

// someRule is a rule that may be, for many or for few.
func someRule(r *rand.Rand, zooms int) api.Rule {
	kind := []int{api.DAllow, api.DAllow, api.DAllow, api.DCap, api.DCloak}[r.Intn(5)]
	x := api.Rule{Kind: kind, Roles: r.Intn(256) | r.Intn(256)}
	if kind == api.DCloak {
		return x
	}
	x.Hi, x.Labels = 7-r.Intn(8)*r.Intn(2), r.Intn(256)|r.Intn(256)
	x.Lo = r.Intn(x.Hi+1) * r.Intn(2)
	x.Zoom = (1 + r.Intn(zooms)) * 16 / zooms
	if r.Intn(9) == 0 {
		x.Zoom = 0
	}
	if r.Intn(3) == 0 {
		x.Roles, x.Lo, x.Hi, x.Labels = 255, 0, 7, 255
	}
	for range r.Intn(4) {
		b := someRect(r)
		if r.Intn(3) == 0 {
			b.X1, b.Y1 = min(b.X1, b.X0+1), min(b.Y1, b.Y0+1)
		}
		x.Boxes = append(x.Boxes, b)
	}
	return x
}

// someRules are a few rules, or as many as may be, of few zooms or of all.
func someRules(r *rand.Rand) []api.Rule {
	var l []api.Rule
	zooms := []int{2, 4, 16}[r.Intn(3)]
	for range r.Intn([]int{4, 12, api.MaxRules + 1}[r.Intn(3)]) {
		l = append(l, someRule(r, zooms))
	}
	return l
}

// someOne are a role, a tier and a label.
func someOne(r *rand.Rand) (role, tier, label int) {
	return r.Intn(8), r.Intn(8), r.Intn(8)
}

// badRects may not be.
func badRects() []api.Rect {
	return []api.Rect{
		rc(1, 0, 0, 0), rc(0, 1, 0, 0), rc(-1, 0, 3, 3), rc(0, -1, 3, 3), rc(0, 0, api.Side, 3), rc(0, 0, 3, api.Side),
		rc(-1, -1, api.Side, api.Side), rc(api.Side, 0, api.Side, 0), rc(last, last, 0, 0), rc(-1<<62, 0, 1<<62, 0), rc(1<<62, 0, -1<<62, 0),
		rc(-1<<63, -1<<63, 1<<63-1, 1<<63-1), rc(1<<63-1, 1<<63-1, -1<<63, -1<<63),
	}
}

// badNumbers are no roles, tiers or labels.
func badNumbers() []int {
	return []int{-1, 8, 9, 63, 64, 255, 256, 1 << 32, 1 << 62, -8, -64, -1 << 63, 1<<63 - 1}
}

// tableOf is a table of rules that may be.
func tableOf(t *testing.T, l ...api.Rule) *grant.Table {
	t.Helper()
	table, e := grant.New(l)
	if table == nil || e != api.OK {
		t.Fatalf("New(%v) = %v, %v", l, table, e)
	}
	return table
}

func wantPatches(t *testing.T, table *grant.Table, role, tier, label int, want ...api.Patch) {
	t.Helper()
	if got := table.Patches(role, tier, label); !slices.Equal(got, want) {
		t.Errorf("for %d %d %d: %v, want %v", role, tier, label, got, want)
	}
}

// wantAll tells of the patches of rules that are for all.
func wantAll(t *testing.T, l []api.Rule, want ...api.Patch) {
	t.Helper()
	table := tableOf(t, l...)
	wantPatches(t, table, 0, 0, 0, want...)
	wantPatches(t, table, 7, 7, 7, want...)
	wantPatches(t, table, 3, 5, 1, want...)
}
