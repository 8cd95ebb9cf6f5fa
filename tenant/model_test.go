package tenant_test

import (
	"cmp"
	"slices"

	"paravent/api"
	"paravent/grant"
	"paravent/plan"
	"paravent/rules"
	"paravent/token"
	"paravent/wire"
)

// A model is the document's words: a tenant's state, in which all is sought one by one.
type model struct{ api.State }

// first is the model of a tenant as it is at first.
func first(secret uint64) *model {
	return &model{api.State{
		Members: []api.Member{{Quota: 65535}},
		Tickets: [][]api.Ticket{{{Secret: secret, Grant: full()}}},
	}}
}

// full is the grant for all.
func full() api.Grant {
	return api.Grant{Ops: 31, Zoom: 16, Box: grid(), Until: 1<<32 - 1}
}

// copied is a model that has the same, and shares nothing.
func (m *model) copied() *model {
	n := *m
	n.Members, n.Records, n.Shapes, n.Events = slices.Clone(m.Members), slices.Clone(m.Records), slices.Clone(m.Shapes), slices.Clone(m.Events)
	n.Tickets = slices.Clone(m.Tickets)
	for i, row := range n.Tickets {
		n.Tickets[i] = slices.Clone(row)
	}
	return &n
}

// same tells whether two states are, rows without anything being the same, nil or empty.
func same(a, b api.State) bool {
	return slices.Equal(a.Members, b.Members) && slices.EqualFunc(a.Tickets, b.Tickets, slices.Equal) &&
		slices.Equal(a.Records, b.Records) && slices.Equal(a.Shapes, b.Shapes) && a.Text == b.Text &&
		slices.Equal(a.Events, b.Events) && a.Past == b.Past
}

// sameAnswer tells whether two answers are, likewise.
func sameAnswer(a, b api.Answer) bool {
	return a.Status == b.Status && a.Secret == b.Secret && a.Record == b.Record && a.Box == b.Box &&
		slices.Equal(a.Seen, b.Seen) && slices.Equal(a.Events, b.Events)
}

// at, recordAt and shapeAt are the places of a user's member, record and cloak, or -1.

func (m *model) at(user int) int {
	return slices.IndexFunc(m.Members, func(x api.Member) bool { return x.User == user })
}

func (m *model) recordAt(user int) int {
	return slices.IndexFunc(m.Records, func(x api.Record) bool { return x.ID == user })
}

func (m *model) shapeAt(user int) int {
	return slices.IndexFunc(m.Shapes, func(x api.Shape) bool { return x.ID == user })
}

// table does something with the table of the member at a place.
func (m *model) table(at int, do func(*token.Table)) {
	t, _ := token.From(m.Tickets[at])
	do(t)
	m.Tickets[at] = t.Tickets(0)
}

// do is how a request is answered, and what is so behind it.
func (m *model) do(r api.Request, draw uint64, now int) api.Answer {
	if !wire.Right(r) || now < 0 || now > 1<<32-1 {
		return api.Answer{Status: api.StBad}
	}
	at := m.at(r.User)
	var g api.Grant
	known := false
	if at >= 0 {
		m.table(at, func(t *token.Table) { g, known = t.Live(r.Secret, now) })
	}
	if !known {
		m.Events = append(m.Events, api.Event{User: 65535, Op: r.Op, Status: api.StUnknown, Tick: now})
		return api.Answer{Status: api.StUnknown}
	}
	if at > 0 {
		if m.Members[at].Quota == 0 {
			return api.Answer{Status: api.StQuota}
		}
		m.Members[at].Quota--
	}
	a := api.Answer{Status: api.StDenied}
	right := wants(r.Op)
	if (right == 0 || g.Ops/right%2 == 1) && (right != api.MayRule || r.User == 0) {
		a = m.decide(r, g, draw, now)
	}
	m.Events = append(m.Events, api.Event{User: r.User, Op: r.Op, Status: a.Status, Tick: now})
	return a
}

// wants is the right that an operation wants.
func wants(op int) int {
	return []int{0, 8, 8, 8, 8, 0, 0, 2, 2, 2, 4, 4, 2, 1, 1, 1, 1, 16, 8, 8}[op]
}

// decide is how a request is answered that nothing keeps from it.
func (m *model) decide(r api.Request, g api.Grant, draw uint64, now int) api.Answer {
	switch r.Op {
	case api.OpEnrol, api.OpDismiss, api.OpQuota:
		return api.Answer{Status: m.enlist(r)}
	case api.OpPolicy:
		if _, f := rules.Read(r.Text); f.Err != api.OK {
			return api.Answer{Status: api.StPolicy}
		}
		m.Text = r.Text
		return api.Answer{}
	case api.OpMint, api.OpAttenuate, api.OpRevoke:
		return m.entitle(r, draw, now)
	case api.OpProfile:
		if r.User == 0 || r.Profile.K == 0 {
			return api.Answer{Status: api.StArg}
		}
		m.Members[m.at(r.User)].Profile = r.Profile
		return api.Answer{}
	case api.OpReport:
		m.remove(r.User)
		m.Records = append(m.Records, api.Record{ID: r.User, At: r.At, Label: r.Label})
		slices.SortFunc(m.Records, func(a, b api.Record) int { return a.ID - b.ID })
		return api.Answer{}
	case api.OpRemove:
		return api.Answer{Status: m.remove(r.User)}
	case api.OpPublish:
		return m.publish(r.User)
	case api.OpWithdraw:
		return api.Answer{Status: m.withdraw(r.User)}
	case api.OpWhere:
		at := m.recordAt(r.User)
		if at < 0 {
			return api.Answer{Status: api.StNone}
		}
		return api.Answer{Record: api.Record{At: m.Records[at].At, Label: m.Records[at].Label}}
	case api.OpTrail:
		return api.Answer{Events: m.trail(r.User, r.From, r.M)}
	case api.OpDrain:
		n := min(r.M, len(m.Events))
		l := slices.Clone(m.Events[:n])
		m.Events, m.Past = slices.Clone(m.Events[n:]), min(m.Past+n, 1<<62-1)
		return api.Answer{Events: l}
	}
	return api.Answer{Seen: m.look(r, g)}
}

// enlist does what is done with members.
func (m *model) enlist(r api.Request) int {
	at := m.at(r.Whom)
	switch {
	case r.Op == api.OpEnrol && (r.Whom == 0 || r.Whom == 65535), r.Op == api.OpDismiss && r.Whom == 0:
		return api.StArg
	case r.Op == api.OpEnrol && at >= 0:
		return api.StClash
	case r.Op == api.OpEnrol:
		at, _ = slices.BinarySearchFunc(m.Members, r.Whom, func(x api.Member, user int) int { return x.User - user })
		m.Members = slices.Insert(m.Members, at, api.Member{User: r.Whom, Role: r.Role, Tier: r.Tier, Quota: r.Quota})
		m.Tickets = slices.Insert(m.Tickets, at, nil)
	case at < 0:
		return api.StNone
	case at == 0: // the Quota of the member 0
		return api.StArg
	case r.Op == api.OpQuota:
		m.Members[at].Quota = r.Quota
	default:
		m.remove(r.Whom)
		m.withdraw(r.Whom)
		m.Members = slices.Delete(m.Members, at, at+1)
		m.Tickets = slices.Delete(m.Tickets, at, at+1)
	}
	return api.StOK
}

// entitle does what is done with tickets.
func (m *model) entitle(r api.Request, draw uint64, now int) api.Answer {
	user, g := r.User, api.Grant{Ops: r.Rights, Zoom: r.Zoom, Box: r.Box, Until: r.Until}
	if r.Op == api.OpMint {
		user, g.Zoom, g.Box = r.Whom, 16, grid()
	}
	at := m.at(user)
	if at < 0 {
		return api.Answer{Status: api.StNone}
	}
	var a api.Answer
	m.table(at, func(t *token.Table) {
		var e api.Errno
		switch r.Op {
		case api.OpMint:
			e, a.Secret = t.Mint(draw, g, now), draw
		case api.OpAttenuate:
			e, a.Secret = t.Derive(r.Secret, draw, g, now), draw
		default:
			e = t.Revoke(r.Other, now)
		}
		if e != api.OK {
			a = api.Answer{Status: map[api.Errno]int{api.ErrDraw: api.StArg, api.ErrNone: api.StNone, api.ErrTwice: api.StClash, api.ErrFull: api.StFull}[e]}
		}
	})
	return a
}

// remove and withdraw let a user's record and cloak go.

func (m *model) remove(user int) int {
	at := m.recordAt(user)
	if at < 0 {
		return api.StNone
	}
	m.Records = slices.Delete(m.Records, at, at+1)
	return api.StOK
}

func (m *model) withdraw(user int) int {
	at := m.shapeAt(user)
	if at < 0 {
		return api.StNone
	}
	m.Shapes = slices.Delete(m.Shapes, at, at+1)
	return api.StOK
}

// publish hides a member.
func (m *model) publish(user int) api.Answer {
	l, _ := rules.Read(m.Text)
	me, at := m.Members[m.at(user)], m.recordAt(user)
	switch {
	case !rules.Cloaks(l, me.Role):
		return api.Answer{Status: api.StDenied}
	case at < 0:
		return api.Answer{Status: api.StNone}
	case me.Profile.K < 1:
		return api.Answer{Status: api.StArg}
	}
	m.withdraw(user)
	box, ok := m.hide(m.Records[at].At, me.Profile)
	if !ok {
		return api.Answer{Status: api.StUnavailable}
	}
	m.Shapes = append(m.Shapes, api.Shape{ID: user, Box: box, Label: m.Records[at].Label})
	slices.SortFunc(m.Shapes, func(a, b api.Shape) int { return a.ID - b.ID })
	return api.Answer{Box: box}
}

// hide is the cloak of a point.
func (m *model) hide(p api.Point, f api.Profile) (api.Rect, bool) {
	for side := 1; ; side *= 2 {
		own := square(p, side)
		if m.does(f, own) {
			return own, true
		}
		if side == api.Side {
			return api.Rect{}, false
		}
		up := square(p, 2*side)
		beside, over := rc(up.X0, own.Y0, up.X1, own.Y1), rc(own.X0, up.Y0, own.X1, up.Y1)
		switch {
		case m.does(f, over) && (!m.does(f, beside) || m.within(over) < m.within(beside)):
			return over, true
		case m.does(f, beside):
			return beside, true
		}
	}
}

// square is the cell of a side that has a point.
func square(p api.Point, side int) api.Rect {
	x, y := p.X/side*side, p.Y/side*side
	return rc(x, y, x+side-1, y+side-1)
}

func (m *model) does(f api.Profile, r api.Rect) bool {
	return m.within(r) >= f.K && uint64(r.X1-r.X0+1)*uint64(r.Y1-r.Y0+1) >= f.Area
}

// within is how many records stand in a rectangle.
func (m *model) within(r api.Rect) int {
	n := 0
	for _, x := range m.Records {
		if x.At.X >= r.X0 && x.At.X <= r.X1 && x.At.Y >= r.Y0 && x.At.Y <= r.Y1 {
			n++
		}
	}
	return n
}

// trail are at most so many of a user's own events, from a number on.
func (m *model) trail(user, from, most int) []api.Event {
	var l []api.Event
	for _, e := range m.Events {
		if e.User == user {
			l = append(l, e)
		}
	}
	l = l[min(from, len(l)):]
	return l[:min(most, len(l))]
}

// sees is what a viewer sees of the records, or of the cloaks.
func (m *model) sees(v plan.Viewer, cloaks bool) []api.Seen {
	l, _ := rules.Read(m.Text)
	t, _ := grant.New(l)
	w := plan.World{Table: t}
	var all []api.Seen
	for _, x := range m.Records {
		if s, ok := plan.See(w, v, x); ok && !cloaks {
			all = append(all, s)
		}
	}
	for _, x := range m.Shapes {
		if s, ok := plan.SeeCloak(w, v, x); ok && cloaks {
			all = append(all, s)
		}
	}
	return all
}

// look is what is asked for of what is seen.
func (m *model) look(r api.Request, g api.Grant) []api.Seen {
	me := m.Members[m.at(r.User)]
	l := m.sees(plan.Viewer{Role: me.Role, Tier: me.Tier, Grant: g}, r.Op == api.OpCloaks || r.Op == api.OpNearCloaks)
	if r.Op == api.OpWindow || r.Op == api.OpCloaks {
		l = slices.DeleteFunc(l, func(s api.Seen) bool {
			return s.Box.X0 > r.Box.X1 || s.Box.X1 < r.Box.X0 || s.Box.Y0 > r.Box.Y1 || s.Box.Y1 < r.Box.Y0
		})
	} else {
		slices.SortStableFunc(l, func(a, b api.Seen) int { return cmp.Compare(apart(a.Box, r.At), apart(b.Box, r.At)) })
	}
	return l[:min(r.M, len(l))]
}

// apart is how far a rectangle is from a point.
func apart(r api.Rect, p api.Point) int {
	x, y := max(r.X0-p.X, p.X-r.X1, 0), max(r.Y0-p.Y, p.Y-r.Y1, 0)
	return x*x + y*y
}

// points are all records' points, in the order of their codes: of two the one comes first that stands in the child of the lesser number.
func (m *model) points() []api.Point {
	var l []api.Point
	for _, x := range m.Records {
		l = append(l, x.At)
	}
	slices.SortFunc(l, func(p, q api.Point) int {
		for side := api.Side / 2; side > 0; side /= 2 {
			if c := cmp.Compare(p.Y/side%2*2+p.X/side%2, q.Y/side%2*2+q.X/side%2); c != 0 {
				return c
			}
		}
		return 0
	})
	return l
}
