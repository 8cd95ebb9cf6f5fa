package view_test

import (
	"math/rand"
	"slices"
	"testing"

	"paravent/api"
	"paravent/reply"
	"paravent/tenant"
	"paravent/view"
)

// twin is a state that differs from another one in something, or in a few things.
func (r maker) twin(s api.State) api.State {
	s = copied(s)
	for range 1 + r.Intn(3) {
		r.turn(&s)
	}
	return s
}

// copied is a state that shares nothing with another one.
func copied(s api.State) api.State {
	s.Members, s.Records, s.Shapes, s.Events = slices.Clone(s.Members), slices.Clone(s.Records), slices.Clone(s.Shapes), slices.Clone(s.Events)
	s.Tickets = slices.Clone(s.Tickets)
	for i, row := range s.Tickets {
		s.Tickets[i] = slices.Clone(row)
	}
	return s
}

// turn changes something of a state, which still may be.
func (r maker) turn(s *api.State) {
	at := r.Intn(len(s.Members))
	switch r.Intn(12) {
	case 0, 1, 2:
		r.stand(s)
	case 3:
		r.hide(s)
	case 4:
		if at > 0 {
			s.Members[at] = r.member(s.Members[at].User)
		}
	case 5:
		if at > 0 {
			s.Tickets[at] = r.tickets()
		}
	case 6:
		s.Tickets[at] = append(s.Tickets[at], api.Ticket{Secret: uint64(70 + len(s.Tickets[at])), Grant: few(31, r.Intn(100))})
	case 7:
		s.Text += " # and more"
	case 8:
		s.Text = oneOf(r, texts()...)
	case 9:
		s.Events = slices.Insert(s.Events, r.Intn(len(s.Events)+1), r.event())
	case 10:
		s.Past += r.Intn(3)
	case 11:
		r.enrol(s)
	}
}

// stand has one, or two of the same label, stand elsewhere: near to where one stood, at the other's place, or anywhere.
func (r maker) stand(s *api.State) {
	if len(s.Records) == 0 {
		return
	}
	x, y := &s.Records[r.Intn(len(s.Records))], &s.Records[r.Intn(len(s.Records))]
	switch r.Intn(4) {
	case 0:
		x.At.X ^= 1
	case 1:
		x.At, y.At = y.At, x.At
	case 2:
		x.At = r.spot()
	case 3:
		x.Label = r.Intn(3)
	}
}

// hide gives a cloak another box, or takes one away.
func (r maker) hide(s *api.State) {
	if len(s.Shapes) == 0 {
		return
	}
	at := r.Intn(len(s.Shapes))
	switch r.Intn(3) {
	case 0:
		s.Shapes = slices.Delete(s.Shapes, at, at+1)
	case 1:
		s.Shapes[at].Box = r.box()
	case 2:
		s.Shapes[at].Box.X0 &^= 1
	}
}

// enrol lets one more in.
func (r maker) enrol(s *api.State) {
	user := 7 + r.Intn(100)
	if user > s.Members[len(s.Members)-1].User {
		s.Members, s.Tickets = append(s.Members, r.member(user)), append(s.Tickets, r.tickets())
	}
}

// asked is a request of a user, mostly with one of its tickets.
func (r maker) asked(s api.State, user int) api.Request {
	q := api.Request{Op: 1 + r.Intn(19), Tenant: r.Intn(3), User: user, Secret: uint64(1 + r.Intn(30)), M: oneOf(r, 0, 1, 2, 64)}
	at := slices.IndexFunc(s.Members, func(m api.Member) bool { return m.User == user })
	if at >= 0 && len(s.Tickets[at]) > 0 && r.Intn(10) > 0 {
		q.Secret = s.Tickets[at][r.Intn(len(s.Tickets[at]))].Secret
	}
	switch q.Op {
	case api.OpEnrol:
		q.Whom, q.Role, q.Tier, q.Quota = r.Intn(9), r.Intn(3), r.Intn(3), r.Intn(9)
	case api.OpDismiss:
		q.Whom = r.Intn(9)
	case api.OpPolicy:
		q.Text = oneOf(r, append(texts(), "role;")...)
	case api.OpMint:
		q.Whom, q.Rights, q.Until = r.Intn(9), r.Intn(32), oneOf(r, ever, r.Intn(100))
	case api.OpAttenuate:
		q.Rights, q.Zoom, q.Box, q.Until = r.Intn(32), r.Intn(17), oneOf(r, grid(), r.box()), oneOf(r, ever, r.Intn(100))
	case api.OpRevoke:
		q.Other = uint64(1 + r.Intn(30))
	case api.OpProfile:
		q.Profile = api.Profile{K: r.Intn(5), Area: oneOf(r, uint64(0), 2, 64)}
	case api.OpReport:
		q.At, q.Label = r.spot(), r.Intn(3)
	case api.OpWindow, api.OpCloaks:
		q.Box = oneOf(r, grid(), r.box())
	case api.OpNear, api.OpNearCloaks:
		q.At = r.spot()
	case api.OpTrail:
		q.From = r.Intn(3)
	case api.OpQuota:
		q.Whom, q.Quota = r.Intn(9), r.Intn(9)
	}
	if r.Intn(50) == 0 {
		q.M = 65 // and so it may not be
	}
	return q
}

// told is what one is answered, as bytes; what is no request is answered as such.
func told(t *testing.T, x *tenant.Tenant, q api.Request, draw uint64, now int) []byte {
	t.Helper()
	a := x.Do(q, draw, now)
	if a.Status == api.StBad {
		return reply.Fault(a.Status)
	}
	b, e := reply.Encode(q.Op, q.M, a)
	if e != api.OK {
		t.Fatalf("%+v: %+v is no answer: %d", q, a, e)
	}
	return b
}

// P23.3: who has the same view of two tenants is answered the same by both, at whichever ticks, and has the same view behind it.
func TestWhoSeesTheSameLearnsNothing(t *testing.T) {
	r := maker{rand.New(rand.NewSource(3))}
	same, ok := map[bool]int{}, map[int]int{}
	for range 6000 {
		s := r.state()
		twin := r.twin(s)
		a, b := of(t, s), of(t, twin)
		user, now := oneOf(r, 0, r.Intn(8), r.Intn(8)), r.tick()
		if !view.Same(view.Of(a, user, now), view.Of(b, user, now)) || equal(s, twin) {
			continue
		}
		same[user == 0]++
		for range 25 {
			q, draw, at := r.asked(oneOf(r, s, twin), user), uint64(r.Intn(30)), r.tick()
			x, y := told(t, a, q, draw, at), told(t, b, q, draw, at)
			if !slices.Equal(x, y) {
				t.Fatalf("%+v and\n%+v: of %+v at %d it is told %v and %v", s, twin, q, at, x, y)
			}
			if x[0] == api.StOK {
				ok[q.Op]++
			}
			if v, w := view.Of(a, user, at), view.Of(b, user, at); !view.Same(v, w) {
				t.Fatalf("%+v and\n%+v: behind %+v at %d the views are %+v and\n%+v", s, twin, q, at, v, w)
			}
		}
	}
	if same[true] < 100 || same[false] < 500 {
		t.Error("too seldom the same:", same)
	}
	for op := 1; op <= 19; op++ {
		if ok[op] < 40 {
			t.Error("too seldom done:", op, ok[op])
		}
	}
}

// A ticket that is over at the view's tick is none of it, and answers nothing any more, not even at an earlier tick.
func TestWhatIsOverIsNotLearnt(t *testing.T) {
	s := ward()
	without := copied(s)
	without.Tickets[1] = without.Tickets[1][:1]
	for _, user := range []int{0, 1} {
		a, b := of(t, s), of(t, without)
		if !view.Same(view.Of(a, user, 21), view.Of(b, user, 21)) {
			t.Error("the views differ")
		}
		q := api.Request{Op: api.OpWhere, User: 1, Secret: 12}
		if x, y := a.Do(q, 0, 4), b.Do(q, 0, 4); x.Status != api.StUnknown || y.Status != api.StUnknown {
			t.Error("the view of", user, "leaves a ticket that is over:", x, y)
		}
	}
}

// What a view tells is to be learnt: whoever asks for it is answered differently, where the views differ.
func TestEachFieldIsLearnt(t *testing.T) {
	ask := func(how func(*api.Request)) api.Request {
		q := api.Request{User: 1, Secret: 11, M: 9}
		how(&q)
		return q
	}
	all := func(op int) api.Request {
		return ask(func(q *api.Request) {
			if q.Op = op; op == api.OpWindow || op == api.OpCloaks {
				q.Box = grid()
			}
		})
	}
	base := ward()
	base.Text += "cloak role nurse;"
	base.Tickets[1] = base.Tickets[1][:1]
	for name, c := range map[string]struct {
		turn func(*api.State)
		asks []api.Request
	}{
		"Member": {func(s *api.State) { s.Members[1].Quota = 0 }, []api.Request{all(api.OpWhere)}},
		"Known": {func(s *api.State) {
			s.Members, s.Tickets, s.Records, s.Shapes = s.Members[:1], s.Tickets[:1], s.Records[:1], nil
		}, []api.Request{all(api.OpWhere)}},
		"Records": {func(s *api.State) { s.Records[1].At.X-- }, []api.Request{all(api.OpWhere)}},
		"Own":     {func(s *api.State) { s.Shapes = s.Shapes[1:] }, []api.Request{all(api.OpWithdraw)}},
		"Tickets": {func(s *api.State) { s.Tickets[1][0].Grant.Ops = 1 }, []api.Request{all(api.OpWhere)}},
		"Events":  {func(s *api.State) { s.Events = s.Events[1:] }, []api.Request{all(api.OpTrail)}},
		"Seen":    {func(s *api.State) { s.Records[2].Label = 1 }, []api.Request{all(api.OpWindow)}},
		"Cloaks":  {func(s *api.State) { s.Shapes[1].Box = rc(8, 8, 9, 9) }, []api.Request{all(api.OpCloaks)}},
		"Cloak":   {func(s *api.State) { s.Text = ward().Text }, []api.Request{all(api.OpPublish)}},
		"Counts":  {func(s *api.State) { s.Records[2].At = pt(5, 8) }, []api.Request{all(api.OpPublish)}},
		"Patches": {func(s *api.State) { s.Text += "allow role nurse tier any label 4 in all zoom 3;" }, []api.Request{
			ask(func(q *api.Request) { q.Op, q.Label = api.OpReport, 4 }), all(api.OpNear),
		}},
	} {
		s := copied(base)
		c.turn(&s)
		a, b := of(t, base), of(t, s)
		if view.Same(view.Of(a, 1, 3), view.Of(b, 1, 3)) {
			t.Error("not to be seen:", name)
		}
		var x, y []byte
		for _, q := range c.asks {
			x, y = append(x, told(t, a, q, 50, 3)...), append(y, told(t, b, q, 50, 3)...)
		}
		if slices.Equal(x, y) {
			t.Error("not to be learnt:", name, x)
		}
	}
}

// P23.4

// A deed is a request that is done at 3, with the draw 50, and what comes of it: for each member whether its view is another one.
type deed struct {
	name  string
	q     api.Request
	turns [4]bool
}

func TestWhatIsDoneWithOthers(t *testing.T) {
	ruler, one, two, three := [4]bool{true}, [4]bool{true, true}, [4]bool{true, false, true}, [4]bool{true, false, false, true}
	by := func(user int, secret uint64, op int, how func(*api.Request)) api.Request {
		q := api.Request{Op: op, User: user, Secret: secret}
		how(&q)
		return q
	}
	is := func(*api.Request) {}
	text := func(s string) func(*api.Request) { return func(q *api.Request) { q.Text = s } }
	spot := func(x, y, label int) func(*api.Request) {
		return func(q *api.Request) { q.At, q.Label = pt(x, y), label }
	}
	for _, d := range []deed{
		{"one is enrolled", by(0, 9, api.OpEnrol, func(q *api.Request) { q.Whom, q.Role, q.Tier, q.Quota = 5, 3, 2, 9 }), ruler},
		{"3 is given more", by(0, 9, api.OpQuota, func(q *api.Request) { q.Whom, q.Quota = 3, 9 }), three},
		{"2 gets a ticket", by(0, 9, api.OpMint, func(q *api.Request) { q.Whom, q.Rights, q.Until = 2, 31, ever }), two},
		{"1 derives one", by(1, 11, api.OpAttenuate, func(q *api.Request) { q.Rights, q.Zoom, q.Box, q.Until = 31, 16, grid(), ever }), one},
		{"1 lets one go", by(1, 11, api.OpRevoke, func(q *api.Request) { q.Other = 12 }), one},
		{"1 would hide better", by(1, 11, api.OpProfile, func(q *api.Request) { q.Profile = api.Profile{K: 9} }), one},
		{"1 looks", by(1, 11, api.OpWindow, func(q *api.Request) { q.Box, q.M = grid(), 9 }), one},
		{"1 asks where it is", by(1, 11, api.OpWhere, is), one},
		{"1 asks what it did", by(1, 11, api.OpTrail, is), one},
		{"1 may not drain", by(1, 11, api.OpDrain, is), one},
		{"1 may not cloak", by(1, 11, api.OpPublish, is), one},
		{"one is unknown", by(1, 99, api.OpWhere, is), ruler},
		{"a request that may not be", by(1, 11, 20, is), [4]bool{}},
		{"a quota that is spent", by(3, 33, api.OpWhere, is), [4]bool{}},
		{"none is drained", by(0, 9, api.OpDrain, is), ruler},
		{"all are drained", by(0, 9, api.OpDrain, func(q *api.Request) { q.M = 64 }), [4]bool{true, true, true, false}},
		{"0 moves, out of the ward", by(0, 9, api.OpReport, spot(65534, 65535, 0)), two}, // 2 is told all points
		{"0 comes into the ward, as a bed", by(0, 9, api.OpReport, spot(4, 4, 1)), [4]bool{true, true, true, false}},
		{"1 moves a little", by(1, 11, api.OpReport, spot(4, 8, 1)), [4]bool{true, true, true, false}},
		{"1 is withdrawn", by(1, 11, api.OpWithdraw, is), [4]bool{true, true, true, false}},
		{"3 is dismissed", by(0, 9, api.OpDismiss, func(q *api.Request) { q.Whom = 3 }), [4]bool{true, false, true, true}},
		{"2 is dismissed", by(0, 9, api.OpDismiss, func(q *api.Request) { q.Whom = 2 }), [4]bool{true, true, true, false}},
		{"a policy with a fault", by(0, 9, api.OpPolicy, text("role;")), ruler},
		{"the policy has a remark", by(0, 9, api.OpPolicy, text(ward().Text+"# 1")), ruler},
		{"the role 7 may more", by(0, 9, api.OpPolicy, text(ward().Text+"allow role 7 tier any label any in all zoom 16; cloak role 7;")), ruler},
		{"nurses may less", by(0, 9, api.OpPolicy, text(ward().Text+"cap role nurse tier any label any in all zoom 4;")), one},
		{"no one sees", by(0, 9, api.OpPolicy, text("cloak role 4;")), [4]bool{true, true, true, false}},
	} {
		x := of(t, ward())
		was := views(x)
		x.Do(d.q, 50, 3)
		for user, v := range views(x) {
			if view.Same(v, was[user]) == d.turns[user] {
				t.Errorf("%s: the view of %d was %+v\nis %+v", d.name, user, was[user], v)
			}
		}
	}
}

// views are those of the members of the ward.
func views(x *tenant.Tenant) [4]api.View {
	var l [4]api.View
	for user := range l {
		l[user] = view.Of(x, user, 3)
	}
	return l
}

// P23.4: what another one asks for, or has done with it, turns a view only by what is disclosed: records, cloaks, patches, points.
func TestOthersTurnNoView(t *testing.T) {
	r := maker{rand.New(rand.NewSource(4))}
	n := map[int]int{}
	for range 1500 {
		s := r.state()
		x := of(t, s)
		user := 1 + r.Intn(6)
		for range 10 {
			was := view.Of(x, user, 0)
			q := r.asked(s, oneOf(r, r.Intn(8), 0))
			a := x.Do(q, uint64(r.Intn(30)), oneOf(r, 0, r.tick()))
			v := view.Of(x, user, 0)
			if !touches(q, a, user) {
				n[q.Op]++
				if !view.Same(v, was) {
					t.Fatalf("%+v: %+v turns the view of %d from %+v\nto %+v", q, a, user, was, v)
				}
			}
		}
	}
	for op := 1; op <= 19; op++ {
		if n[op] < 50 {
			t.Error("too seldom asked of others:", op, n[op])
		}
	}
}

// touches tells whether what is done is done with a user, or may be disclosed to all.
func touches(q api.Request, a api.Answer, user int) bool {
	switch q.Op {
	case api.OpPolicy, api.OpReport, api.OpRemove, api.OpWithdraw, api.OpDrain, api.OpDismiss:
		return q.User == user || a.Status == api.StOK
	case api.OpPublish: // one that is unavailable lets the elder cloak go
		return q.User == user || a.Status == api.StOK || a.Status == api.StUnavailable
	case api.OpEnrol, api.OpMint, api.OpQuota:
		return q.User == user || q.Whom == user
	}
	return q.User == user
}
