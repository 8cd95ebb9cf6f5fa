package rules_test

import (
	"math/rand"
	"reflect"
	"slices"
	"testing"

	"paravent/api"
	"paravent/policy"
	"paravent/rules"
)

const last = api.Side - 1

func rc(x0, y0, x1, y1 int) api.Rect { return api.Rect{X0: x0, Y0: y0, X1: x1, Y1: y1} }

func pt(x, y int) api.Point { return api.Point{X: x, Y: y} }

func at(line, col int) api.Pos { return api.Pos{Line: line, Col: col} }

func grid() api.Rect { return rc(0, 0, last, last) }

// A model is the document's words: what is ahead of a declaration is gone through for each of them anew.

// boxMayBe tells whether a rectangle may be.
func boxMayBe(b api.Rect) bool {
	return b.X0 >= 0 && b.Y0 >= 0 && b.X0 <= b.X1 && b.Y0 <= b.Y1 && b.X1 < 65536 && b.Y1 < 65536
}

// declared is the declaration of a name of a kind among those ahead.
func declared(ahead []api.Decl, kind int, name string) (api.Decl, bool) {
	for _, d := range ahead {
		if d.Kind == kind && d.Name == name {
			return d, true
		}
	}
	return api.Decl{}, false
}

// numbers are the numbers that a who is, of roles or labels by their kind.
func numbers(ahead []api.Decl, kind int, w api.Who) ([]int, api.Errno) {
	if w.Any {
		return []int{0, 1, 2, 3, 4, 5, 6, 7}, api.OK
	}
	if w.Name == "" && w.N > 7 {
		return nil, api.ErrRange
	}
	if w.Name == "" {
		return []int{w.N}, api.OK
	}
	d, ok := declared(ahead, kind, w.Name)
	if !ok {
		return nil, api.ErrNone
	}
	return []int{d.N}, api.OK
}

// summed is the sum of 2^n for some numbers.
func summed(l []int) int {
	sum := 0
	for _, n := range l {
		power := 1
		for range n {
			power *= 2
		}
		sum += power
	}
	return sum
}

func isRule(d api.Decl) bool {
	return d.Kind == api.DAllow || d.Kind == api.DCap || d.Kind == api.DCloak
}

// boxesOf are the boxes of where a rule is.
func boxesOf(ahead []api.Decl, d api.Decl) ([]api.Rect, bool) {
	switch {
	case d.Kind == api.DCloak:
		return nil, true
	case d.Where.Any:
		return []api.Rect{grid()}, true
	}
	region, ok := declared(ahead, api.DRegion, d.Where.Name)
	return slices.Clone(region.Boxes), ok
}

// flaw is what is wrong with a declaration behind others that are right.
func flaw(ahead []api.Decl, d api.Decl) api.Fault {
	here := func(e api.Errno) api.Fault { return api.Fault{Err: e, At: d.At} }
	if !isRule(d) {
		_, twice := declared(ahead, d.Kind, d.Name)
		switch {
		case twice:
			return here(api.ErrTwice)
		case d.N > 7, slices.ContainsFunc(d.Boxes, func(b api.Rect) bool { return !boxMayBe(b) }):
			return here(api.ErrRange)
		}
		return api.Fault{}
	}
	before, boxes := 0, 0
	for i, e := range ahead {
		if isRule(e) {
			before++
			l, _ := boxesOf(ahead[:i], e)
			boxes += len(l)
		}
	}
	if before >= 32 {
		return here(api.ErrLong)
	}
	if _, e := numbers(ahead, api.DRole, d.Role); e != api.OK {
		return api.Fault{Err: e, At: d.Role.At}
	}
	if d.Kind == api.DCloak {
		return api.Fault{}
	}
	if d.Lo > d.Hi || d.Hi > 7 {
		return here(api.ErrRange)
	}
	if _, e := numbers(ahead, api.DLabel, d.Label); e != api.OK {
		return api.Fault{Err: e, At: d.Label.At}
	}
	own, ok := boxesOf(ahead, d)
	switch {
	case !ok:
		return api.Fault{Err: api.ErrNone, At: d.Where.At}
	case boxes+len(own) > 32:
		return here(api.ErrLong)
	case d.Zoom > 16:
		return here(api.ErrRange)
	}
	return api.Fault{}
}

// checked is what Check is to answer.
func checked(l []api.Decl) ([]api.Rule, api.Fault) {
	if !policy.Right(l) {
		return nil, api.Fault{Err: api.ErrArg}
	}
	var all []api.Rule
	for i, d := range l {
		if f := flaw(l[:i], d); f != (api.Fault{}) {
			return nil, f
		}
		if !isRule(d) {
			continue
		}
		roles, _ := numbers(l[:i], api.DRole, d.Role)
		r := api.Rule{Kind: d.Kind, Roles: summed(roles)}
		if d.Kind != api.DCloak {
			labels, _ := numbers(l[:i], api.DLabel, d.Label)
			boxes, _ := boxesOf(l[:i], d)
			r.Lo, r.Hi, r.Labels, r.Boxes, r.Zoom = d.Lo, d.Hi, summed(labels), boxes, d.Zoom
		}
		all = append(all, r)
	}
	return all, api.Fault{}
}

// mayBe tells whether a rule may be.
func mayBe(r api.Rule) bool {
	if r.Roles < 0 || r.Roles > 255 {
		return false
	}
	switch r.Kind {
	case api.DCloak:
		r.Kind, r.Roles = 0, 0
		return len(r.Boxes) == 0 && reflect.DeepEqual(api.Rule{}, api.Rule{Lo: r.Lo, Hi: r.Hi, Labels: r.Labels, Zoom: r.Zoom})
	case api.DAllow, api.DCap:
		for _, b := range r.Boxes {
			if !boxMayBe(b) {
				return false
			}
		}
		return r.Lo >= 0 && r.Lo <= r.Hi && r.Hi <= 7 && r.Labels >= 0 && r.Labels <= 255 && r.Zoom >= 0 && r.Zoom <= 16
	}
	return false
}

// isFor tells whether a rule that may be is for a role, a tier and a label.
func isFor(r api.Rule, role, tier, label int) bool {
	among := func(sum, n int) bool {
		for i := range 8 {
			if sum%2 == 1 && i == n {
				return true
			}
			sum /= 2
		}
		return false
	}
	return among(r.Roles, role) && tier >= r.Lo && tier <= r.Hi && among(r.Labels, label)
}

// zoomOf is the zoom for them, by rules of which each may be, or 0.
func zoomOf(l []api.Rule, role, tier, label int, p api.Point) int {
	zooms := func(kind int) []int {
		var z []int
		for _, r := range l {
			for _, b := range r.Boxes {
				if r.Kind == kind && isFor(r, role, tier, label) && p.X >= b.X0 && p.X <= b.X1 && p.Y >= b.Y0 && p.Y <= b.Y1 {
					z = append(z, r.Zoom)
				}
			}
		}
		slices.Sort(z)
		return z
	}
	if slices.ContainsFunc(l, func(r api.Rule) bool { return !mayBe(r) }) {
		return 0
	}
	allowed, capped := zooms(api.DAllow), zooms(api.DCap)
	switch {
	case len(allowed) == 0:
		return 0
	case len(capped) > 0 && capped[0] < allowed[len(allowed)-1]:
		return capped[0]
	}
	return allowed[len(allowed)-1]
}

// Some of all that there is.

// seldom is a number that is often one of a few, seldom a wrong one.
func seldom(r *rand.Rand, most int, wrong ...int) int {
	if r.Intn(90) == 0 {
		return wrong[r.Intn(len(wrong))]
	}
	return r.Intn(most + 1)
}

func someName(r *rand.Rand) string {
	return []string{"a", "b", "c", "d", "e", "nurse", "ward-3"}[r.Intn(7)]
}

func somePos(r *rand.Rand) api.Pos { return at(r.Intn(100)-9, r.Intn(100)-9) }

// someWho is anyone, a number, or the name of one of a kind that was declared ahead, if there is one.
func someWho(r *rand.Rand, ahead []api.Decl, kind int) api.Who {
	var names []string
	for _, d := range ahead {
		if d.Kind == kind {
			names = append(names, d.Name)
		}
	}
	w := api.Who{At: somePos(r)}
	switch n := r.Intn(80); {
	case n == 0:
		w.Name = someName(r)
	case n < 40 && len(names) > 0:
		w.Name = names[r.Intn(len(names))]
	case n < 60 || kind == api.DRegion:
		w.Any = true
	default:
		w.N = seldom(r, 7, 8, 9, 65535)
	}
	return w
}

func someBox(r *rand.Rand) api.Rect {
	x0, y0 := r.Intn(12), r.Intn(12)
	return rc(x0, y0, x0+r.Intn(12-x0), y0+r.Intn(12-y0))
}

func someBoxes(r *rand.Rand, most int) []api.Rect {
	var l []api.Rect
	for range 1 + r.Intn(most) {
		l = append(l, someBox(r))
	}
	if r.Intn(40) == 0 {
		l[r.Intn(len(l))] = []api.Rect{rc(4, 0, 3, 0), rc(0, 4, 0, 3), rc(65535, 0, 0, 0), grid()}[r.Intn(4)]
	}
	return l
}

// someDecl is a declaration that may be, behind others.
func someDecl(r *rand.Rand, ahead []api.Decl, kind int) api.Decl {
	d := api.Decl{Kind: kind, At: somePos(r)}
	switch kind {
	case api.DRole, api.DLabel, api.DRegion:
		d.Name = someName(r)
		for _, twice := declared(ahead, kind, d.Name); twice && r.Intn(20) > 0; _, twice = declared(ahead, kind, d.Name) {
			d.Name = someName(r)
		}
		if kind == api.DRegion {
			d.Boxes = someBoxes(r, 1+r.Intn(9))
		} else {
			d.N = seldom(r, 7, 8, 300)
		}
	case api.DAllow, api.DCap:
		d.Role, d.Label, d.Where = someWho(r, ahead, api.DRole), someWho(r, ahead, api.DLabel), someWho(r, ahead, api.DRegion)
		d.Hi, d.Zoom = seldom(r, 7, 8, 65535), seldom(r, 16, 17, 65535)
		d.Lo = seldom(r, min(d.Hi, 7), 7, 8)
	case api.DCloak:
		d.Role = someWho(r, ahead, api.DRole)
	}
	return d
}

// someDecls are a policy's declarations: names first, then rules and names, mostly right.
func someDecls(r *rand.Rand) []api.Decl {
	var l []api.Decl
	for range r.Intn(6) {
		l = append(l, someDecl(r, l, 1+r.Intn(3)))
	}
	for range r.Intn([]int{5, 12, 45}[r.Intn(3)]) {
		kind := 4 + r.Intn(3)
		if r.Intn(25) == 0 && len(l) < 8 {
			kind = 1 + r.Intn(3)
		}
		l = append(l, someDecl(r, l, kind))
	}
	return l
}

// someRule is a rule that may be.
func someRule(r *rand.Rand, kind int) api.Rule {
	x := api.Rule{Kind: kind, Roles: r.Intn(256) | r.Intn(256)}
	if kind != api.DCloak {
		x.Hi, x.Labels, x.Zoom = 7-r.Intn(8)*r.Intn(2), r.Intn(256)|r.Intn(256), r.Intn(17)
		x.Lo = r.Intn(x.Hi+1) * r.Intn(2)
		for range r.Intn(6) {
			x.Boxes = append(x.Boxes, someBox(r))
		}
	}
	return x
}

func someRules(r *rand.Rand, most int) []api.Rule {
	var l []api.Rule
	for range r.Intn(most + 1) {
		l = append(l, someRule(r, []int{api.DAllow, api.DAllow, api.DCap, api.DCloak}[r.Intn(4)]))
	}
	return l
}

// turned is a rule with something else at one of its fields.
func turned(r *rand.Rand, x api.Rule) api.Rule {
	n := []int{-1, -255, 256, 257, 8, 17, 7, 0, 1 << 40, -1 << 63}[r.Intn(10)]
	switch r.Intn(7) {
	case 0:
		x.Kind = []int{0, 1, 2, 3, 4, 5, 6, 7, -1, n}[r.Intn(10)]
	case 1:
		x.Roles = n
	case 2:
		x.Lo = n
	case 3:
		x.Hi = n
	case 4:
		x.Labels = n
	case 5:
		x.Boxes = [][]api.Rect{nil, {}, {{}}, {{X0: n}}, {{}, {Y0: n}}, {{X1: n}, {}}, {{Y1: n}}}[r.Intn(7)]
	case 6:
		x.Zoom = n
	}
	return x
}

// same tells whether rules are the same, however lists without elements are told.
func same(a, b []api.Rule) bool {
	return slices.EqualFunc(a, b, func(x, y api.Rule) bool {
		boxes := slices.Equal(x.Boxes, y.Boxes)
		x.Boxes, y.Boxes = nil, nil
		return boxes && reflect.DeepEqual(x, y)
	})
}

func wantChecked(t *testing.T, l []api.Decl, want []api.Rule, wf api.Fault) {
	t.Helper()
	if got, f := rules.Check(l); !same(got, want) || f != wf {
		t.Errorf("Check(%+v) = %+v, %v, want %+v, %v", l, got, f, want, wf)
	}
}

// wantRead tells of what is read, and of the model too.
func wantRead(t *testing.T, s string, want []api.Rule, wf api.Fault) {
	t.Helper()
	if got, f := rules.Read(s); !same(got, want) || f != wf {
		t.Errorf("Read(%q) = %+v, %v, want %+v, %v", s, got, f, want, wf)
	}
	l, f := policy.Parse(s)
	if f != (api.Fault{}) {
		return
	}
	wantChecked(t, l, want, wf)
	if got, f := checked(l); !same(got, want) || f != wf {
		t.Errorf("of %q the model has %+v, %v", s, got, f)
	}
}

func wantFault(t *testing.T, s string, e api.Errno, line, col int) {
	t.Helper()
	wantRead(t, s, nil, api.Fault{Err: e, At: at(line, col)})
}
