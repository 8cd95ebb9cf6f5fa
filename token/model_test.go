package token_test

import (
	"math"
	"math/rand"
	"slices"

	"paravent/api"
)

// A model is the document's words: tickets in the order in which they were made.

type model []api.Ticket

// mayBe tells whether a grant may be.
func mayBe(g api.Grant) bool {
	b := g.Box
	points := 0 <= b.X0 && b.X0 <= b.X1 && b.X1 <= 65535 && 0 <= b.Y0 && b.Y0 <= b.Y1 && b.Y1 <= 65535
	if g.Void {
		points = b.X0 == 0 && b.Y0 == 0 && b.X1 == 0 && b.Y1 == 0
	}
	return points && 0 <= g.Ops && g.Ops <= 31 && 0 <= g.Zoom && g.Zoom <= 16 && 0 <= g.Until && g.Until <= 1<<32-1
}

// together are two grants together, which may be.
func together(a, b api.Grant) api.Grant {
	var g api.Grant
	for _, right := range []int{api.MaySee, api.MayOwn, api.MayCloak, api.MayRule, api.MayAudit} {
		if a.Ops/right%2 == 1 && b.Ops/right%2 == 1 {
			g.Ops += right
		}
	}
	g.Zoom, g.Until = a.Zoom, a.Until
	if b.Zoom < g.Zoom {
		g.Zoom = b.Zoom
	}
	if b.Until < g.Until {
		g.Until = b.Until
	}
	left, right := max(a.Box.X0, b.Box.X0), min(a.Box.X1, b.Box.X1)
	top, bottom := max(a.Box.Y0, b.Box.Y0), min(a.Box.Y1, b.Box.Y1)
	if a.Void || b.Void || left > right || top > bottom {
		g.Void = true
	} else {
		g.Box = rc(left, top, right, bottom)
	}
	return g
}

// of is the ticket with a secret.
func (m model) of(s uint64) (api.Ticket, bool) {
	for _, k := range m {
		if s != 0 && k.Secret == s {
			return k, true
		}
	}
	return api.Ticket{}, false
}

// line is a ticket, that of which it was made, and so on.
func (m model) line(k api.Ticket) []api.Ticket {
	l := []api.Ticket{k}
	for k.Parent != 0 {
		k, _ = m.of(k.Parent)
		l = append(l, k)
	}
	return l
}

// grants is what a ticket grants.
func (m model) grants(k api.Ticket) api.Grant {
	g := k.Grant
	for _, elder := range m.line(k)[1:] {
		g = together(g, elder.Grant)
	}
	return g
}

// at are those that are not over at a tick.
func (m model) at(now int) model {
	var l model
	for _, k := range m {
		if m.grants(k).Until >= now {
			l = append(l, k)
		}
	}
	return l
}

// without are those that neither have a secret nor were made of what has it.
func (m model) without(s uint64) model {
	var l model
	for _, k := range m {
		if !slices.ContainsFunc(m.line(k), func(elder api.Ticket) bool { return elder.Secret == s }) {
			l = append(l, k)
		}
	}
	return l
}

// with are these and another one, or the error.
func (m model) with(k api.Ticket) (model, api.Errno) {
	_, twice := m.of(k.Secret)
	switch {
	case !mayBe(k.Grant):
		return m, api.ErrArg
	case k.Secret == 0:
		return m, api.ErrDraw
	case twice:
		return m, api.ErrTwice
	case len(m) >= 8:
		return m, api.ErrFull
	}
	return append(slices.Clone(m), k), api.OK
}

// from are tickets as a table's, or the error.
func from(l []api.Ticket) (model, api.Errno) {
	if len(l) > 8 {
		return nil, api.ErrArg
	}
	var m model
	for _, k := range l {
		_, twice := m.of(k.Secret)
		_, parent := m.of(k.Parent)
		if k.Secret == 0 || twice || !mayBe(k.Grant) || k.Parent != 0 && !parent {
			return nil, api.ErrArg
		}
		m = append(m, k)
	}
	return m, api.OK
}

// someBox is a rectangle of a few points at a corner of the grid, often the whole one.
func someBox(r *rand.Rand) api.Rect {
	if r.Intn(3) == 0 {
		return grid()
	}
	x, y := r.Intn(2)*(last-7), r.Intn(2)*(last-7)
	x0, y0 := r.Intn(8), r.Intn(8)
	return rc(x+x0, y+y0, x+x0+r.Intn(8-x0), y+y0+r.Intn(8-y0))
}

// someGrant is a grant that may be.
func someGrant(r *rand.Rand) api.Grant {
	g := api.Grant{Ops: r.Intn(32), Zoom: r.Intn(17), Until: someTick(r)}
	if r.Intn(3) == 0 {
		g.Ops, g.Zoom = 31, 16
	}
	if r.Intn(8) == 0 {
		g.Void = true
	} else {
		g.Box = someBox(r)
	}
	return g
}

// someTick is a tick that may be a grant's last one.
func someTick(r *rand.Rand) int {
	return []int{0, 1, 10 + r.Intn(40), 10 + r.Intn(40), 10 + r.Intn(40), api.MaxTick - 1, api.MaxTick, api.MaxTick, api.MaxTick}[r.Intn(9)]
}

// someSecret is one of a few, which are close to one another; also 0.
func someSecret(r *rand.Rand) uint64 {
	n := uint64(r.Intn(16))
	if r.Intn(4) == 0 {
		return n << 56
	}
	return n
}

// someTickets may be those of a table, or nearly so.
func someTickets(r *rand.Rand) []api.Ticket {
	l := make([]api.Ticket, r.Intn(10))
	for i := range l {
		l[i] = api.Ticket{Secret: uint64(r.Intn(100) + 1), Grant: someGrant(r)}
		if i > 0 && r.Intn(3) > 0 {
			l[i].Parent = l[r.Intn(i)].Secret
		}
	}
	if len(l) == 0 || r.Intn(2) == 0 {
		return l
	}
	k := &l[r.Intn(len(l))]
	switch r.Intn(5) {
	case 0:
		k.Secret = someSecret(r)
	case 1:
		k.Parent = someSecret(r)
	case 2:
		k.Parent = l[len(l)-1].Secret
	case 3:
		k.Secret = l[0].Secret
	case 4:
		k.Grant = badGrants()[r.Intn(len(badGrants()))]
	}
	return l
}

// never is a tick at which none is over.
const never = math.MinInt
