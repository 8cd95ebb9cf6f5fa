package token_test

import (
	"math"
	"math/rand"
	"testing"

	"paravent/api"
	"paravent/geom"
	"paravent/token"
)

const last = api.Side - 1

func rc(x0, y0, x1, y1 int) api.Rect { return api.Rect{X0: x0, Y0: y0, X1: x1, Y1: y1} }

func grid() api.Rect { return rc(0, 0, last, last) }

// whole is the grant for all.
func whole() api.Grant {
	return api.Grant{Ops: api.MayAll, Zoom: api.MaxLevel, Box: grid(), Until: api.MaxTick}
}

// upTo is the grant for all up to a tick.
func upTo(until int) api.Grant {
	g := whole()
	g.Until = until
	return g
}

// void is the grant for all that has no point.
func void() api.Grant {
	g := whole()
	g.Box, g.Void = api.Rect{}, true
	return g
}

func boxed(x0, y0, x1, y1 int) api.Grant {
	g := whole()
	g.Box = rc(x0, y0, x1, y1)
	return g
}

func goodGrants() []api.Grant {
	l := []api.Grant{
		{}, {Void: true}, whole(), void(), upTo(0), upTo(1), upTo(9), upTo(api.MaxTick - 1),
		boxed(0, 0, 0, 0), boxed(last, last, last, last), boxed(0, 0, 9, 9), boxed(5, 5, 12, 7), boxed(10, 0, 12, 9), boxed(0, 9, last, 9),
	}
	for _, ops := range []int{0, 1, 2, 4, 8, 16, 3, 21, 10, 30} {
		g := whole()
		g.Ops = ops
		l = append(l, g)
	}
	for zoom := range api.MaxLevel + 1 {
		g := whole()
		g.Zoom = zoom
		l = append(l, g)
	}
	return append(l, api.Grant{Ops: 5, Zoom: 12, Void: true, Until: 3}, api.Grant{Ops: 6, Zoom: 3, Box: rc(4, 4, 8, 20), Until: 7})
}

func badGrants() []api.Grant {
	var l []api.Grant
	for _, n := range []int{-1, -31, math.MinInt, math.MaxInt, api.MaxTick + 1, -api.MaxTick - 1} {
		a, b, c := whole(), whole(), whole()
		a.Ops, b.Zoom, c.Until = n, n, n
		l = append(l, a, b, c)
		a, b, c = void(), void(), void()
		a.Ops, b.Zoom, c.Until = n, n, n
		l = append(l, a, b, c, api.Grant{Ops: n}, api.Grant{Zoom: n}, api.Grant{Until: n})
	}
	for _, ops := range []int{32, 33, 63, 1 << 8} {
		g := whole()
		g.Ops = ops
		l = append(l, g)
	}
	g := whole()
	g.Zoom = 17
	l = append(l, g)
	for _, b := range []api.Rect{rc(1, 0, 0, 0), rc(0, 1, 0, 0), rc(-1, 0, 5, 5), rc(0, -1, 5, 5), rc(0, 0, api.Side, 5), rc(0, 0, 5, api.Side), rc(last, last, 0, 0), rc(math.MinInt, math.MinInt, math.MaxInt, math.MaxInt)} {
		a, v := whole(), void()
		a.Box, v.Box = b, b
		l = append(l, a, v)
	}
	// What is void has no rectangle, be it one that may be.
	for _, b := range []api.Rect{grid(), rc(0, 0, 0, 1), rc(1, 1, 1, 1), rc(0, 0, 1, 0)} {
		v := void()
		v.Box = b
		l = append(l, v, api.Grant{Box: b, Void: true})
	}
	return l
}

// P16.1

func TestRight(t *testing.T) {
	for _, g := range goodGrants() {
		if !token.Right(g) {
			t.Errorf("%+v may not be", g)
		}
	}
	for _, g := range badGrants() {
		if token.Right(g) {
			t.Errorf("%+v may be", g)
		}
	}
	for ops := -3; ops < 70; ops++ {
		if token.Right(api.Grant{Ops: ops}) != (ops >= 0 && ops <= 31) {
			t.Errorf("whether the rights %d may be is wrong", ops)
		}
	}
	for zoom := -3; zoom < 70; zoom++ {
		if token.Right(api.Grant{Zoom: zoom}) != (zoom >= 0 && zoom <= 16) {
			t.Errorf("whether the zoom %d may be is wrong", zoom)
		}
	}
}

func TestMeet(t *testing.T) {
	for _, c := range []struct{ a, b, want api.Grant }{
		{whole(), whole(), whole()},
		{whole(), void(), void()},
		{void(), void(), void()},
		{whole(), api.Grant{}, api.Grant{}},
		{api.Grant{}, api.Grant{Void: true}, api.Grant{Void: true}},
		{whole(), upTo(9), upTo(9)},
		{upTo(0), upTo(9), upTo(0)},
		{boxed(0, 0, 9, 9), boxed(5, 7, 20, 30), boxed(5, 7, 9, 9)},
		{boxed(0, 0, 9, 9), boxed(9, 9, 20, 30), boxed(9, 9, 9, 9)},
		{boxed(0, 0, 9, 9), boxed(10, 0, 20, 9), void()},
		{boxed(0, 0, 9, 9), boxed(0, 10, 9, 20), void()},
		{boxed(0, 0, 0, 0), boxed(last, last, last, last), void()},
		// A point of both at 0 0 is one all the same, one of a grant without points is none.
		{boxed(0, 0, 0, 0), boxed(0, 0, 9, 9), boxed(0, 0, 0, 0)},
		{boxed(0, 0, 0, 0), void(), void()},
		{api.Grant{Ops: 21, Zoom: 5, Box: rc(0, 0, 9, 9), Until: 8}, api.Grant{Ops: 19, Zoom: 7, Box: rc(3, 3, 4, 4), Until: 6}, api.Grant{Ops: 17, Zoom: 5, Box: rc(3, 3, 4, 4), Until: 6}},
		{api.Grant{Ops: 10, Zoom: 16, Box: rc(0, 0, 1, 1), Until: api.MaxTick}, api.Grant{Ops: 21, Zoom: 0, Box: rc(2, 2, 3, 3), Until: 1}, api.Grant{Void: true, Until: 1}},
		{api.Grant{Ops: 7, Zoom: 3, Void: true, Until: 8}, api.Grant{Ops: 14, Zoom: 2, Box: rc(7, 7, 8, 8), Until: 9}, api.Grant{Ops: 6, Zoom: 2, Void: true, Until: 8}},
	} {
		for _, got := range []api.Grant{token.Meet(c.a, c.b), token.Meet(c.b, c.a)} {
			if got != c.want {
				t.Errorf("%+v and %+v together are %+v, not %+v", c.a, c.b, got, c.want)
			}
		}
	}
}

func TestNarrower(t *testing.T) {
	few := api.Grant{Ops: 5, Zoom: 9, Box: rc(3, 3, 6, 6), Until: 20}
	for _, c := range []struct {
		a, b api.Grant
		want bool
	}{
		{whole(), whole(), true},
		{few, few, true},
		{few, whole(), true},
		{whole(), few, false},
		{void(), whole(), true},
		{whole(), void(), false},
		{void(), void(), true},
		{api.Grant{}, few, false}, // the point 0 0 is none of the other's
		{api.Grant{Void: true}, few, true},
		{api.Grant{Box: rc(3, 3, 3, 3)}, few, true},
		{api.Grant{}, whole(), true},
		{api.Grant{Void: true}, void(), true},
		{api.Grant{}, void(), false},
		{api.Grant{Ops: 4, Zoom: 9, Box: rc(3, 3, 6, 6), Until: 20}, few, true},
		{api.Grant{Ops: 2, Zoom: 9, Box: rc(3, 3, 6, 6), Until: 20}, few, false},
		{api.Grant{Ops: 7, Zoom: 9, Box: rc(3, 3, 6, 6), Until: 20}, few, false},
		{api.Grant{Ops: 5, Zoom: 10, Box: rc(3, 3, 6, 6), Until: 20}, few, false},
		{api.Grant{Ops: 5, Zoom: 9, Box: rc(3, 3, 6, 7), Until: 20}, few, false},
		{api.Grant{Ops: 5, Zoom: 9, Box: rc(2, 3, 6, 6), Until: 20}, few, false},
		{api.Grant{Ops: 5, Zoom: 9, Box: rc(3, 3, 6, 6), Until: 21}, few, false},
		{api.Grant{Ops: 5, Zoom: 9, Void: true, Until: 21}, few, false},
	} {
		if got := token.Narrower(c.a, c.b); got != c.want {
			t.Errorf("whether %+v is narrower than %+v is %v", c.a, c.b, got)
		}
	}
}

func TestGrantsThatMayNotBe(t *testing.T) {
	for _, bad := range badGrants() {
		for _, g := range append(goodGrants(), badGrants()...) {
			for _, m := range []api.Grant{token.Meet(bad, g), token.Meet(g, bad)} {
				if m != (api.Grant{}) {
					t.Errorf("%+v and %+v together are %+v", bad, g, m)
				}
			}
			if token.Narrower(bad, g) || token.Narrower(g, bad) {
				t.Errorf("%+v and %+v are narrower than one another", bad, g)
			}
		}
	}
}

// P16.4, and P16.1 for grants of all kinds.

// checkTogether holds what is told of three grants against the document's words.
func checkTogether(t *testing.T, a, b, c api.Grant) {
	t.Helper()
	m := token.Meet(a, b)
	if want := together(a, b); m != want || m != token.Meet(b, a) {
		t.Fatalf("%+v and %+v together are %+v, not %+v", a, b, m, want)
	}
	if x, y := token.Meet(m, c), token.Meet(a, token.Meet(b, c)); x != y {
		t.Fatalf("%+v, %+v and %+v together are %+v or %+v", a, b, c, x, y)
	}
	if !token.Right(m) || !token.Narrower(m, a) || !token.Narrower(m, b) {
		t.Fatalf("%+v is not narrower than %+v and %+v", m, a, b)
	}
	if token.Meet(a, a) != a || token.Narrower(a, b) != narrow(a, b) || token.Narrower(c, m) != (narrow(c, a) && narrow(c, b)) {
		t.Fatalf("of %+v, %+v and %+v is said wrongly which are narrower", a, b, c)
	}
}

// narrow tells whether a lets one do nothing that b does not let one do.
func narrow(a, b api.Grant) bool {
	return a.Ops&^b.Ops == 0 && a.Zoom <= b.Zoom && a.Until <= b.Until && (a.Void || !b.Void && geom.In(a.Box, b.Box))
}

func TestTogether(t *testing.T) {
	l := goodGrants()
	for _, a := range l {
		for _, b := range l {
			for _, c := range l {
				checkTogether(t, a, b, c)
			}
		}
	}
	r := rand.New(rand.NewSource(1))
	voids, narrows := 0, 0
	for range 50000 {
		a, b, c := someGrant(r), someGrant(r), someGrant(r)
		checkTogether(t, a, b, c)
		if token.Meet(a, b).Void {
			voids++
		}
		if token.Narrower(a, b) {
			narrows++
		}
	}
	if voids < 5000 || narrows < 500 {
		t.Error("too plain:", voids, narrows)
	}
}
