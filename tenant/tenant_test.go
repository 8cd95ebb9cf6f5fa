package tenant_test

import (
	"math"
	"slices"
	"testing"

	"paravent/api"
	"paravent/plan"
	"paravent/tenant"
)

const (
	last = api.Side - 1
	ever = api.MaxTick
)

func rc(x0, y0, x1, y1 int) api.Rect { return api.Rect{X0: x0, Y0: y0, X1: x1, Y1: y1} }

func pt(x, y int) api.Point { return api.Point{X: x, Y: y} }

func grid() api.Rect { return rc(0, 0, last, last) }

// sight is a policy that lets all see closely, and cloak.
const sight = "allow role any tier any label any in all zoom 14; cloak role any;"

// as is a request of a user with a secret; by9 one of the member 0, whose first secret is 9 here.

func as(user int, secret uint64, r api.Request) api.Request {
	r.User, r.Secret = user, secret
	return r
}

func by9(r api.Request) api.Request { return as(0, 9, r) }

// Requests without who asks.

func op(op int) api.Request { return api.Request{Op: op} }

func enrol(whom, role, tier, quota int) api.Request {
	return api.Request{Op: api.OpEnrol, Whom: whom, Role: role, Tier: tier, Quota: quota}
}

func dismiss(whom int) api.Request { return api.Request{Op: api.OpDismiss, Whom: whom} }

func policy(text string) api.Request { return api.Request{Op: api.OpPolicy, Text: text} }

func mint(whom, rights, until int) api.Request {
	return api.Request{Op: api.OpMint, Whom: whom, Rights: rights, Until: until}
}

func attenuate(rights, zoom int, box api.Rect, until int) api.Request {
	return api.Request{Op: api.OpAttenuate, Rights: rights, Zoom: zoom, Box: box, Until: until}
}

func revoke(other uint64) api.Request { return api.Request{Op: api.OpRevoke, Other: other} }

func profile(k int, area uint64) api.Request {
	return api.Request{Op: api.OpProfile, Profile: api.Profile{K: k, Area: area}}
}

func report(x, y, label int) api.Request {
	return api.Request{Op: api.OpReport, At: pt(x, y), Label: label}
}

func window(box api.Rect, m int) api.Request {
	return api.Request{Op: api.OpWindow, Box: box, M: m}
}

func near(p api.Point, m int) api.Request { return api.Request{Op: api.OpNear, At: p, M: m} }

func cloaks(box api.Rect, m int) api.Request {
	return api.Request{Op: api.OpCloaks, Box: box, M: m}
}

func nearCloaks(p api.Point, m int) api.Request {
	return api.Request{Op: api.OpNearCloaks, At: p, M: m}
}

func trail(from, m int) api.Request { return api.Request{Op: api.OpTrail, From: from, M: m} }

func drain(m int) api.Request { return api.Request{Op: api.OpDrain, M: m} }

func quota(whom, n int) api.Request {
	return api.Request{Op: api.OpQuota, Whom: whom, Quota: n}
}

// everyOp is a request of each operation that may be, as many as answer something.
func everyOp() []api.Request {
	return []api.Request{
		enrol(5, 1, 1, 9), dismiss(1), policy(sight), mint(1, 31, ever), attenuate(31, 16, grid(), ever), revoke(99),
		profile(2, 3), report(5, 9, 1), op(api.OpRemove), op(api.OpPublish), op(api.OpWithdraw), op(api.OpWhere),
		window(grid(), 9), near(pt(3, 3), 9), cloaks(grid(), 9), nearCloaks(pt(3, 3), 9), trail(0, 9), drain(2), quota(2, 3),
	}
}

// A pair is a tenant and the model that it is to be like.
type pair struct {
	t *testing.T
	x *tenant.Tenant
	m *model
}

// at9 is a tenant as it is at first, with the secret 9.
func at9(t *testing.T) *pair {
	t.Helper()
	x, e := tenant.New(9)
	if e != api.OK {
		t.Fatal("New:", e)
	}
	p := &pair{t, x, first(9)}
	p.agree()
	return p
}

// cast is a tenant with the members 1 (secret 11) and 2 (secret 22), who may all that members may, and with the policy sight.
func cast(t *testing.T) *pair {
	t.Helper()
	p := at9(t)
	p.want(api.StOK, by9(enrol(1, 2, 3, 1000)), 0, 0)
	p.want(api.StOK, by9(enrol(2, 4, 5, 1000)), 0, 0)
	p.want(api.StOK, by9(mint(1, 31, ever)), 11, 0)
	p.want(api.StOK, by9(mint(2, 31, ever)), 22, 0)
	p.want(api.StOK, by9(policy(sight)), 0, 0)
	return p
}

// agree holds all that a tenant tells against the model.
func (p *pair) agree() {
	p.t.Helper()
	if s := p.x.Export(); !same(s, p.m.State) {
		p.t.Fatalf("the state is %+v\nnot %+v", s, p.m.State)
	}
}

// ask does a request, and holds its answer and what is so behind it against the model.
func (p *pair) ask(r api.Request, draw uint64, now int) api.Answer {
	p.t.Helper()
	got, want := p.x.Do(r, draw, now), p.m.do(r, draw, now)
	if !sameAnswer(got, want) {
		p.t.Fatalf("%+v with %d at %d: %+v, want %+v", r, draw, now, got, want)
	}
	p.agree()
	return got
}

// want holds a status against what is wanted.
func (p *pair) want(status int, r api.Request, draw uint64, now int) api.Answer {
	p.t.Helper()
	a := p.ask(r, draw, now)
	if a.Status != status {
		p.t.Fatalf("%+v with %d at %d: status %d, want %d", r, draw, now, a.Status, status)
	}
	if status != api.StOK && !sameAnswer(a, api.Answer{Status: status}) {
		p.t.Fatalf("%+v with %d at %d: %+v besides the status %d", r, draw, now, a, status)
	}
	return a
}

// wantAnswer holds an answer against what is wanted.
func (p *pair) wantAnswer(want api.Answer, r api.Request, draw uint64, now int) {
	p.t.Helper()
	if a := p.ask(r, draw, now); !sameAnswer(a, want) {
		p.t.Fatalf("%+v with %d at %d: %+v, want %+v", r, draw, now, a, want)
	}
}

// wantSeen holds what is seen against what is wanted.
func (p *pair) wantSeen(r api.Request, want ...api.Seen) {
	p.t.Helper()
	p.wantAnswer(api.Answer{Seen: want}, r, 0, 0)
}

// wantLast holds the last event against what is wanted.
func (p *pair) wantLast(want api.Event) {
	p.t.Helper()
	if l := p.x.Events(); len(l) == 0 || l[len(l)-1] != want {
		p.t.Fatalf("the last event is not %+v: %+v", want, l)
	}
}

func TestExample(t *testing.T) {
	p := at9(t)
	p.want(api.StOK, by9(enrol(1, 2, 3, 5)), 0, 0)
	p.want(api.StUnknown, as(1, 7, op(api.OpWhere)), 0, 0)
	p.wantAnswer(api.Answer{Secret: 7}, by9(mint(1, 31, ever)), 7, 0)
	p.want(api.StNone, as(1, 7, op(api.OpWhere)), 0, 0)
	want := []api.Event{
		{Op: api.OpEnrol},
		{User: api.Nobody, Op: api.OpWhere, Status: api.StUnknown},
		{Op: api.OpMint},
		{User: 1, Op: api.OpWhere, Status: api.StNone},
	}
	if l := p.x.Events(); !slices.Equal(l, want) {
		t.Error(l)
	}
}

// P22.1

func TestNew(t *testing.T) {
	for _, secret := range []uint64{1, 9, 1 << 63, math.MaxUint64} {
		x, e := tenant.New(secret)
		if e != api.OK || !same(x.Export(), first(secret).State) {
			t.Errorf("New(%d): %+v, %d", secret, x.Export(), e)
		}
		if a := x.Do(as(0, secret, drain(0)), 0, ever); a.Status != api.StOK {
			t.Errorf("New(%d): status %d", secret, a.Status)
		}
	}
	if x, e := tenant.New(0); x != nil || e != api.ErrDraw {
		t.Errorf("New(0): %v, %d", x, e)
	}
	// Two have nothing in common.
	a, b := at9(t), at9(t)
	a.want(api.StOK, by9(enrol(1, 2, 3, 4)), 0, 0)
	a.want(api.StOK, by9(report(1, 2, 3)), 0, 0)
	b.agree()
}

// wantNothing tells what a tenant has that is to have nothing.
func wantNothing(t *testing.T, x *tenant.Tenant) {
	t.Helper()
	n := len(x.Members()) + len(x.Records()) + len(x.Shapes()) + len(x.Tickets(0, 0)) + len(x.Events()) + x.Past() + len(x.Text()) + len(x.Points()) + len(x.Patches(0, 0, 0))
	records, cloaks := x.Sees(0, 0)
	if n+len(records)+len(cloaks) != 0 || x.Cloaks(0) || !same(x.Export(), api.State{}) {
		t.Errorf("of no tenant there is something: %+v", x.Export())
	}
}

func TestNilTenant(t *testing.T) {
	var zero tenant.Tenant
	for _, x := range []*tenant.Tenant{nil, &zero} {
		for _, r := range append(append(everyOp(), badRequests()...), badRequests()...) {
			for _, now := range []int{0, ever, -1, ever + 1} {
				if a := x.Do(r, 5, now); !sameAnswer(a, api.Answer{Status: api.StUnknown}) {
					t.Errorf("%+v: %+v", r, a)
				}
			}
		}
		wantNothing(t, x)
	}
}

// P22.2

// told is a tenant with something of all that there may be.
func told(t *testing.T) *pair {
	t.Helper()
	p := cast(t)
	p.want(api.StOK, by9(policy("region w = 0 0 7 7; allow role 2 tier 3 label any in all zoom 14; cap role any tier any label 1 in w zoom 13; cloak role 2; cloak role 4;")), 0, 0)
	p.want(api.StOK, as(1, 11, report(5, 9, 0)), 0, 0)
	p.want(api.StOK, as(2, 22, report(6, 2, 1)), 0, 0)
	p.want(api.StOK, by9(report(0, 70, 7)), 0, 0)
	p.want(api.StOK, as(1, 11, profile(2, 0)), 0, 0)
	p.want(api.StOK, as(2, 22, profile(1, 1)), 0, 0)
	p.want(api.StOK, as(1, 11, op(api.OpPublish)), 0, 0)
	p.want(api.StOK, as(2, 22, op(api.OpPublish)), 0, 0)
	p.want(api.StOK, as(1, 11, attenuate(3, 12, rc(0, 0, 9, 9), 20)), 12, 0)
	p.want(api.StOK, by9(drain(3)), 0, 0)
	return p
}

func TestTold(t *testing.T) {
	p := told(t)
	x := p.x
	if l := x.Members(); !slices.Equal(l, []api.Member{
		{Quota: 65535},
		{User: 1, Role: 2, Tier: 3, Quota: 996, Profile: api.Profile{K: 2}},
		{User: 2, Role: 4, Tier: 5, Quota: 997, Profile: api.Profile{K: 1, Area: 1}},
	}) {
		t.Error("Members:", l)
	}
	if l := x.Records(); !slices.Equal(l, []api.Record{{At: pt(0, 70), Label: 7}, {ID: 1, At: pt(5, 9)}, {ID: 2, At: pt(6, 2), Label: 1}}) {
		t.Error("Records:", l)
	}
	if l := x.Shapes(); !slices.Equal(l, []api.Shape{{ID: 1, Box: rc(0, 0, 7, 15)}, {ID: 2, Box: rc(6, 2, 6, 2), Label: 1}}) {
		t.Error("Shapes:", l)
	}
	if l := x.Events(); len(l) != 12 || l[0] != (api.Event{Op: api.OpMint}) || x.Past() != 3 {
		t.Error("Events:", l, x.Past())
	}
	if s := x.Text(); s != p.m.Text || s == "" {
		t.Error("Text:", s)
	}
	if l := x.Points(); !slices.Equal(l, []api.Point{pt(6, 2), pt(5, 9), pt(0, 70)}) {
		t.Error("Points:", l)
	}
	if l := x.Patches(2, 3, 1); !slices.Equal(l, []api.Patch{{Box: rc(0, 0, 7, 7), Zoom: 13}, {Box: rc(8, 0, last, 7), Zoom: 14}, {Box: rc(0, 8, last, last), Zoom: 14}}) {
		t.Error("Patches:", l)
	}
	if l := x.Patches(2, 3, 0); !slices.Equal(l, []api.Patch{{Box: grid(), Zoom: 14}}) {
		t.Error("Patches:", l)
	}
	for _, who := range [][3]int{{2, 2, 0}, {3, 3, 0}, {2, 3, 8}, {-1, 3, 0}, {2, -1, 0}, {math.MinInt, math.MaxInt, 64}} {
		if l := x.Patches(who[0], who[1], who[2]); len(l) != 0 {
			t.Errorf("Patches(%v): %v", who, l)
		}
	}
	for role := -3; role < 70; role++ {
		if x.Cloaks(role) != (role == 2 || role == 4) {
			t.Errorf("Cloaks(%d): %v", role, x.Cloaks(role))
		}
	}
}

func TestSees(t *testing.T) {
	p := told(t)
	for _, c := range []struct {
		role, tier      int
		records, cloaks []api.Seen
	}{
		{2, 3,
			[]api.Seen{{ID: 0, Level: 14, Box: rc(0, 68, 3, 71)}, {ID: 1, Level: 14, Box: rc(4, 8, 7, 11)}, {ID: 2, Level: 13, Box: rc(0, 0, 7, 7)}},
			[]api.Seen{{ID: 1, Level: 14, Box: rc(0, 0, 7, 15)}, {ID: 2, Level: 13, Box: rc(0, 0, 7, 7)}}},
		{2, 4, nil, nil}, {3, 3, nil, nil}, {8, 3, nil, nil}, {2, 8, nil, nil}, {-1, -1, nil, nil}, {math.MaxInt, math.MinInt, nil, nil},
	} {
		records, cloaks := p.x.Sees(c.role, c.tier)
		if !slices.Equal(records, c.records) || !slices.Equal(cloaks, c.cloaks) {
			t.Errorf("Sees(%d, %d): %v, %v", c.role, c.tier, records, cloaks)
		}
	}
	p.agree()
}

func TestTickets(t *testing.T) {
	p := told(t)
	all := []api.Ticket{{Secret: 11, Grant: full()}, {Secret: 12, Parent: 11, Grant: api.Grant{Ops: 3, Zoom: 12, Box: rc(0, 0, 9, 9), Until: 20}}}
	for _, now := range []int{0, 20, -1, math.MinInt} {
		if l := p.x.Tickets(1, now); !slices.Equal(l, all) {
			t.Errorf("Tickets(1, %d): %+v", now, l)
		}
	}
	for _, user := range []int{3, 65535, -1, math.MinInt, math.MaxInt} {
		if l := p.x.Tickets(user, 0); len(l) != 0 {
			t.Errorf("Tickets(%d, 0): %+v", user, l)
		}
	}
	// What is over at the tick goes, and comes back at none; that of other members stays.
	if l := p.x.Tickets(1, 21); !slices.Equal(l, all[:1]) {
		t.Errorf("Tickets(1, 21): %+v", l)
	}
	if l := p.x.Tickets(1, 20); !slices.Equal(l, all[:1]) {
		t.Errorf("Tickets(1, 20): %+v", l)
	}
	if l := p.x.Tickets(1, ever+1); len(l) != 0 {
		t.Errorf("behind the greatest tick: %+v", l)
	}
	for user, secret := range map[int]uint64{0: 9, 2: 22} {
		if l := p.x.Tickets(user, ever); !slices.Equal(l, []api.Ticket{{Secret: secret, Grant: full()}}) {
			t.Errorf("Tickets(%d): %+v", user, l)
		}
	}
}

// TestAnswersAreNew spoils all that is answered, and holds that nothing else is turned by it.
func TestAnswersAreNew(t *testing.T) {
	p := told(t)
	x := p.x
	p.m.Members[1].Quota--
	p.m.Members[2].Quota -= 2
	p.m.Events = append(p.m.Events, api.Event{User: 1, Op: api.OpTrail}, api.Event{User: 2, Op: api.OpWindow, Tick: 0}, api.Event{User: 2, Op: api.OpCloaks})
	clear(x.Do(as(1, 11, trail(0, 9)), 0, 0).Events)
	clear(x.Do(as(2, 22, window(grid(), 9)), 0, 0).Seen)
	clear(x.Do(as(2, 22, cloaks(grid(), 9)), 0, 0).Seen)
	clear(x.Members())
	clear(x.Records())
	clear(x.Shapes())
	clear(x.Tickets(1, 0))
	clear(x.Events())
	clear(x.Points())
	clear(x.Patches(2, 3, 1))
	a, b := x.Sees(2, 3)
	clear(a)
	clear(b)
	spoil(x.Export())
	p.agree()
	if l := x.Points(); !slices.Equal(l, p.m.points()) {
		t.Error("Points:", l)
	}
	if l := x.Patches(2, 3, 1); len(l) != 3 || l[0].Zoom != 13 {
		t.Error("Patches:", l)
	}
	viewer := plan.Viewer{Role: 2, Tier: 3, Grant: full()}
	if a, b := x.Sees(2, 3); !slices.Equal(a, p.m.sees(viewer, false)) || !slices.Equal(b, p.m.sees(viewer, true)) {
		t.Error("Sees:", a, b)
	}
}

// spoil turns all that a state has.
func spoil(s api.State) {
	clear(s.Members)
	clear(s.Records)
	clear(s.Shapes)
	clear(s.Events)
	for _, row := range s.Tickets {
		clear(row)
	}
	clear(s.Tickets)
}
