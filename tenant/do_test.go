package tenant_test

import (
	"math"
	"slices"
	"strings"
	"testing"

	"paravent/api"
)

// P22.1: in which order a request is looked at.

// badRequests may not be, for one reason each.
func badRequests() []api.Request {
	var l []api.Request
	turn := func(r api.Request, how func(*api.Request)) {
		r = by9(r)
		how(&r)
		l = append(l, r)
	}
	for _, n := range []int{math.MinInt, -1, 0, 20, 256, math.MaxInt} {
		turn(op(api.OpWhere), func(r *api.Request) { r.Op = n })
	}
	for _, r := range everyOp() {
		for _, n := range []int{-1, math.MinInt, math.MaxInt} {
			turn(r, func(r *api.Request) { r.User = n })
			turn(r, func(r *api.Request) { r.Tenant = n })
			turn(r, func(r *api.Request) { r.M = n })
		}
		turn(r, func(r *api.Request) { r.User = 65536 })
		turn(r, func(r *api.Request) { r.Tenant = 256 })
		turn(r, func(r *api.Request) { r.M = 65 })
	}
	// A field of another operation is to be zero.
	turn(op(api.OpWhere), func(r *api.Request) { r.Whom = 1 })
	turn(op(api.OpDrain), func(r *api.Request) { r.Text = "#" })
	turn(report(1, 1, 1), func(r *api.Request) { r.Other = 1 })
	turn(mint(1, 1, 1), func(r *api.Request) { r.Zoom = 1 })
	turn(window(grid(), 1), func(r *api.Request) { r.At.X = 1 })
	// What an operation has is to be in its bounds.
	for _, r := range []api.Request{
		enrol(65536, 1, 1, 1), enrol(5, 8, 1, 1), enrol(5, 1, 8, 1), enrol(5, 1, 1, 65536), enrol(-1, 1, 1, 1), dismiss(65536),
		policy(strings.Repeat("#", 513)), mint(65536, 1, 1), mint(1, 32, 1), mint(1, 1, ever+1), mint(1, -1, 1),
		attenuate(32, 1, grid(), 1), attenuate(1, 17, grid(), 1), attenuate(1, 1, rc(1, 0, 0, 0), 1), attenuate(1, 1, rc(0, 0, 0, api.Side), 1),
		attenuate(1, 1, grid(), ever+1), profile(65536, 0), profile(-1, 0), report(-1, 0, 0), report(0, api.Side, 0), report(0, 0, 8),
		window(rc(0, 1, 0, 0), 1), window(rc(-1, 0, 0, 0), 1), cloaks(rc(0, 0, api.Side, 0), 1), near(pt(-1, 0), 1), nearCloaks(pt(0, api.Side), 1),
		trail(65536, 1), trail(-1, 1), quota(65536, 1), quota(1, 65536), quota(1, -1),
	} {
		turn(r, func(*api.Request) {})
	}
	return l
}

func TestBad(t *testing.T) {
	p := cast(t)
	p.want(api.StOK, by9(mint(0, 31, 5)), 10, 0)
	p.want(api.StOK, by9(quota(1, 0)), 0, 0)
	for _, r := range badRequests() {
		p.want(api.StBad, r, 5, 6) // at 6 the ticket 10 is over; but nothing changes
	}
	for _, now := range []int{-1, ever + 1, math.MinInt, math.MaxInt} {
		for _, r := range everyOp() {
			p.want(api.StBad, by9(r), 5, now)
			p.want(api.StBad, as(1, 11, r), 5, now) // and not StQuota
			p.want(api.StBad, as(77, 7, r), 5, now) // and not StUnknown
		}
	}
	if l := p.x.Tickets(0, 0); len(l) != 2 {
		t.Error("a bad request let a ticket go:", l)
	}
	p.want(api.StOK, by9(op(api.OpDrain)), 0, 0)
	p.want(api.StOK, by9(op(api.OpDrain)), 0, ever)
}

func TestUnknown(t *testing.T) {
	p := cast(t)
	p.want(api.StOK, by9(enrol(3, 1, 1, 9)), 0, 0)
	p.want(api.StOK, by9(mint(1, 31, 9)), 12, 0)
	p.want(api.StOK, by9(quota(2, 0)), 0, 0)
	unknown := func(r api.Request, now int) {
		t.Helper()
		n := len(p.x.Events())
		p.want(api.StUnknown, r, 5, now)
		p.wantLast(api.Event{User: 65535, Op: r.Op, Status: api.StUnknown, Tick: now})
		if len(p.x.Events()) != n+1 {
			t.Error("not one event:", p.x.Events())
		}
	}
	for _, r := range everyOp() {
		unknown(as(4, 11, r), 3)
		unknown(as(65535, 9, r), 3)
		unknown(as(1, 13, r), 3)
		unknown(as(1, 22, r), 3) // another one's
		unknown(as(1, 9, r), 3)
		unknown(as(1, 0, r), 3)
		unknown(as(0, 11, r), 3)
		unknown(as(0, 0, r), 3)
		unknown(as(3, 0, r), 3) // it has none
		unknown(as(2, 23, r), ever)
	}
	if m := p.x.Members()[1]; m.Quota != 1000 {
		t.Error("the Quota is spent:", m)
	}
	// At a tick a ticket is over, and lets nobody ask from there on.
	p.want(api.StNone, as(1, 12, op(api.OpWhere)), 0, 9)
	unknown(as(1, 12, op(api.OpWhere)), 10)
	unknown(as(1, 12, op(api.OpWhere)), 9)
	// Also one that asks in vain lets those go that are over.
	p.want(api.StOK, by9(mint(1, 31, 9)), 12, 0)
	unknown(as(1, 13, op(api.OpWhere)), 10)
	unknown(as(1, 12, op(api.OpWhere)), 0)
}

func TestQuotaIsSpent(t *testing.T) {
	p := cast(t)
	p.want(api.StOK, by9(quota(1, 4)), 0, 0)
	p.want(api.StOK, by9(mint(1, api.MayOwn, ever)), 12, 0)
	p.want(api.StOK, as(1, 11, report(1, 2, 3)), 0, 0)
	p.want(api.StDenied, as(1, 12, trail(0, 9)), 0, 0) // spends as well
	p.want(api.StDenied, as(1, 11, drain(9)), 0, 0)
	p.want(api.StUnknown, as(1, 13, drain(9)), 0, 0) // does not
	p.want(api.StArg, as(1, 11, profile(0, 0)), 0, 0)
	n := len(p.x.Events())
	for _, r := range everyOp() {
		p.want(api.StQuota, as(1, 11, r), 14, 0)
		p.want(api.StQuota, as(1, 12, r), 14, 0) // and not StDenied
		p.want(api.StUnknown, as(1, 13, r), 14, 0)
	}
	if l := p.x.Events(); len(l) != n+19 {
		t.Error("a spent Quota has an event:", l[n:])
	}
	// The others ask on, and the member 0 gives more.
	p.want(api.StNone, as(2, 22, op(api.OpWhere)), 0, 0)
	p.want(api.StOK, by9(quota(1, 1)), 0, 0)
	p.want(api.StOK, as(1, 11, op(api.OpWhere)), 0, 0)
	p.want(api.StQuota, as(1, 11, op(api.OpWhere)), 0, 0)
	// What is over goes all the same.
	p.want(api.StOK, by9(mint(1, 31, 9)), 14, 0)
	p.want(api.StQuota, as(1, 11, op(api.OpWhere)), 0, 10)
	p.want(api.StUnknown, as(1, 14, op(api.OpWhere)), 0, 9)
	// One that has none from the beginning may not ask.
	p.want(api.StOK, by9(enrol(3, 0, 0, 0)), 0, 0)
	p.want(api.StOK, by9(mint(3, 31, ever)), 33, 0)
	p.want(api.StQuota, as(3, 33, op(api.OpWhere)), 0, 0)
}

func TestTheMember0IsNeverSpent(t *testing.T) {
	p := at9(t)
	for range api.MaxQuota + 10 {
		if a := p.x.Do(by9(op(api.OpDrain)), 0, 0); a.Status != api.StOK {
			t.Fatal(a)
		}
	}
	if m := p.x.Members()[0]; m.Quota != 65535 {
		t.Error(m)
	}
}

func TestRights(t *testing.T) {
	rights := map[int]int{
		api.OpWindow: api.MaySee, api.OpNear: api.MaySee, api.OpCloaks: api.MaySee, api.OpNearCloaks: api.MaySee,
		api.OpProfile: api.MayOwn, api.OpReport: api.MayOwn, api.OpRemove: api.MayOwn, api.OpWhere: api.MayOwn,
		api.OpPublish: api.MayCloak, api.OpWithdraw: api.MayCloak, api.OpTrail: api.MayAudit, api.OpAttenuate: 0, api.OpRevoke: 0,
	}
	for ops := range 32 {
		for _, r := range everyOp() {
			right, any := rights[r.Op]
			for _, user := range []int{0, 1} {
				p := told(t)
				p.want(api.StOK, by9(mint(user, ops, ever)), 50, 0)
				may := right&ops == right
				if !any {
					may = user == 0 && ops&api.MayRule != 0
				}
				a := p.ask(as(user, 50, r), 51, 7)
				p.wantLast(api.Event{User: user, Op: r.Op, Status: a.Status, Tick: 7})
				if denied := a.Status == api.StDenied; denied == may && (r.Op != api.OpPublish || user != 0) {
					t.Fatalf("with the rights %d, %d by %d: status %d", ops, r.Op, user, a.Status)
				}
			}
		}
	}
}

// A ticket that was made of another one grants no more than both.
func TestRightsOfBoth(t *testing.T) {
	p := told(t)
	p.want(api.StOK, by9(mint(1, api.MaySee|api.MayOwn, ever)), 50, 0)
	p.want(api.StOK, as(1, 50, attenuate(31, 13, rc(0, 0, 15, 15), ever)), 51, 0)
	p.want(api.StOK, as(1, 51, attenuate(api.MaySee, 16, rc(0, 8, last, last), 30)), 52, 0)
	p.want(api.StOK, as(1, 51, attenuate(api.MaySee, 16, rc(16, 0, last, last), 30)), 53, 0)
	p.want(api.StDenied, as(1, 51, trail(0, 1)), 0, 0)
	p.want(api.StOK, as(1, 51, op(api.OpWhere)), 0, 0)
	p.want(api.StDenied, as(1, 52, op(api.OpWhere)), 0, 0)
	one, two := api.Seen{ID: 1, Level: 13, Box: rc(0, 8, 7, 15)}, api.Seen{ID: 2, Level: 13, Box: rc(0, 0, 7, 7)}
	p.wantSeen(as(1, 51, window(grid(), 9)), one, two)
	p.wantSeen(as(1, 52, window(grid(), 9)), one)
	p.wantSeen(as(1, 53, window(grid(), 9))) // there is no point that both have
	p.want(api.StUnknown, as(1, 52, window(grid(), 9)), 0, 31)
}

// P22.1: what each operation does.

func TestEnrol(t *testing.T) {
	p := at9(t)
	p.want(api.StOK, by9(enrol(1, 2, 3, 5)), 0, 0)
	p.want(api.StOK, by9(enrol(65534, 7, 7, 65535)), 0, 0)
	p.want(api.StOK, by9(enrol(2, 0, 0, 0)), 0, 0)
	if l := p.x.Members(); !slices.Equal(l, []api.Member{{Quota: 65535}, {User: 1, Role: 2, Tier: 3, Quota: 5}, {User: 2}, {User: 65534, Role: 7, Tier: 7, Quota: 65535}}) {
		t.Error(l)
	}
	for _, user := range []int{1, 2, 65534} {
		if l := p.x.Tickets(user, 0); len(l) != 0 {
			t.Error("one who is new has tickets:", l)
		}
		p.want(api.StClash, by9(enrol(user, 1, 1, 1)), 0, 0)
	}
	p.want(api.StArg, by9(enrol(0, 0, 0, 65535)), 0, 0)
	p.want(api.StArg, by9(enrol(65535, 1, 1, 1)), 0, 0)
}

func TestDismiss(t *testing.T) {
	p := told(t)
	p.want(api.StArg, by9(dismiss(0)), 0, 0)
	p.want(api.StNone, by9(dismiss(3)), 0, 0)
	p.want(api.StNone, by9(dismiss(65535)), 0, 0)
	p.want(api.StOK, by9(dismiss(1)), 0, 0)
	if len(p.x.Records()) != 2 || len(p.x.Shapes()) != 1 || len(p.x.Tickets(1, 0)) != 0 || len(p.x.Members()) != 2 || !slices.Equal(p.x.Points(), []api.Point{pt(6, 2), pt(0, 70)}) {
		t.Errorf("%+v, %v", p.x.Export(), p.x.Points())
	}
	p.want(api.StUnknown, as(1, 11, op(api.OpWhere)), 0, 0)
	p.want(api.StNone, by9(dismiss(1)), 0, 0)
	// One with neither a record nor a cloak goes as well; and who is enrolled anew has nothing of what it had.
	p.want(api.StOK, by9(enrol(1, 2, 3, 5)), 0, 0)
	p.want(api.StUnknown, as(1, 11, op(api.OpWhere)), 0, 0)
	p.want(api.StOK, by9(mint(1, 31, ever)), 11, 0)
	p.want(api.StNone, as(1, 11, op(api.OpWhere)), 0, 0)
	p.want(api.StNone, as(1, 11, op(api.OpWithdraw)), 0, 0)
	p.want(api.StOK, as(1, 11, report(1, 1, 1)), 0, 0)
	p.want(api.StArg, as(1, 11, op(api.OpPublish)), 0, 0) // without a profile
	p.want(api.StOK, by9(enrol(3, 0, 0, 0)), 0, 0)
	p.want(api.StOK, by9(dismiss(3)), 0, 0)
}

func TestQuota(t *testing.T) {
	p := cast(t)
	for _, n := range []int{0, 1, 65535} {
		p.want(api.StOK, by9(quota(1, n)), 0, 0)
		if m := p.x.Members()[1]; m.Quota != n {
			t.Error(m)
		}
	}
	p.want(api.StArg, by9(quota(0, 5)), 0, 0)
	p.want(api.StNone, by9(quota(3, 5)), 0, 0)
	p.want(api.StNone, by9(quota(65535, 5)), 0, 0)
}

func TestPolicy(t *testing.T) {
	p := cast(t)
	p.want(api.StOK, as(1, 11, report(5, 9, 2)), 0, 0)
	see := as(2, 22, window(grid(), 9))
	p.wantSeen(see, api.Seen{ID: 1, Level: 14, Box: rc(4, 8, 7, 11)})
	for _, s := range []string{"?", "role = 3;", "role a = 8;", "allow role any tier any label any in all zoom 17;", "allow role a tier any label any in all zoom 7;", "role", strings.Repeat("cloak role any;", 33)} {
		p.want(api.StPolicy, by9(policy(s)), 0, 0)
	}
	p.wantSeen(see, api.Seen{ID: 1, Level: 14, Box: rc(4, 8, 7, 11)})
	// From a new policy on no one sees by the elder one.
	p.want(api.StOK, by9(policy("allow role any tier any label 2 in all zoom 13;")), 0, 0)
	p.wantSeen(see, api.Seen{ID: 1, Level: 13, Box: rc(0, 8, 7, 15)})
	p.want(api.StOK, by9(policy("allow role any tier any label 1 in all zoom 13;")), 0, 0)
	p.wantSeen(see)
	p.want(api.StOK, by9(policy(sight)), 0, 0)
	p.want(api.StOK, by9(policy("")), 0, 0)
	p.wantSeen(see)
	if p.x.Text() != "" || p.x.Cloaks(2) || len(p.x.Patches(2, 3, 1)) != 0 {
		t.Error("there is something of an elder policy:", p.x.Export())
	}
	long := strings.Repeat("cloak role any; ", 32)
	p.want(api.StOK, by9(policy(long)), 0, 0)
	if p.x.Text() != long || !p.x.Cloaks(7) {
		t.Error("the text is not as it was given:", p.x.Text())
	}
}

func TestMint(t *testing.T) {
	p := cast(t)
	p.want(api.StNone, by9(mint(3, 31, ever)), 5, 0)
	p.want(api.StNone, by9(mint(65535, 31, ever)), 0, 0) // and not StArg
	p.want(api.StArg, by9(mint(1, 31, ever)), 0, 0)
	p.want(api.StClash, by9(mint(1, 31, ever)), 11, 0)
	p.wantAnswer(api.Answer{Secret: 22}, by9(mint(1, 5, 30)), 22, 0) // another member's is none of its own
	p.wantAnswer(api.Answer{Secret: math.MaxUint64}, by9(mint(0, 0, 0)), math.MaxUint64, 0)
	want := api.Ticket{Secret: 22, Grant: api.Grant{Ops: 5, Zoom: 16, Box: grid(), Until: 30}}
	if l := p.x.Tickets(1, 30); len(l) != 2 || l[1] != want {
		t.Errorf("%+v", l)
	}
	for s := range uint64(6) {
		p.wantAnswer(api.Answer{Secret: 30 + s}, by9(mint(1, 1, 9)), 30+s, 0)
	}
	p.want(api.StFull, by9(mint(1, 1, 9)), 40, 9)
	p.want(api.StClash, by9(mint(1, 1, 9)), 30, 9) // and not StFull
	p.want(api.StArg, by9(mint(1, 1, 9)), 0, 9)
	p.wantAnswer(api.Answer{Secret: 30}, by9(mint(1, 1, 99)), 30, 10) // the others are over by then
	if l := p.x.Tickets(1, 0); len(l) != 3 {
		t.Errorf("%+v", l)
	}
	// A ticket that ends ahead of its making is made, and lets no one do anything.
	p.wantAnswer(api.Answer{Secret: 41}, by9(mint(1, 31, 9)), 41, 10)
	p.want(api.StUnknown, as(1, 41, op(api.OpWhere)), 0, 10)
}

func TestAttenuate(t *testing.T) {
	p := cast(t)
	p.wantAnswer(api.Answer{Secret: 12}, as(1, 11, attenuate(3, 5, rc(1, 2, 3, 4), 20)), 12, 0)
	p.wantAnswer(api.Answer{Secret: 13}, as(1, 12, attenuate(31, 16, grid(), ever)), 13, 0)
	want := []api.Ticket{
		{Secret: 11, Grant: full()},
		{Secret: 12, Parent: 11, Grant: api.Grant{Ops: 3, Zoom: 5, Box: rc(1, 2, 3, 4), Until: 20}},
		{Secret: 13, Parent: 12, Grant: full()},
	}
	if l := p.x.Tickets(1, 20); !slices.Equal(l, want) {
		t.Errorf("%+v", l)
	}
	p.want(api.StArg, as(1, 11, attenuate(1, 1, grid(), 9)), 0, 0)
	p.want(api.StClash, as(1, 11, attenuate(1, 1, grid(), 9)), 13, 0)
	p.want(api.StClash, as(1, 11, attenuate(1, 1, grid(), 9)), 11, 0)
	p.wantAnswer(api.Answer{Secret: 22}, as(1, 11, attenuate(1, 1, grid(), 9)), 22, 0)
	for s := range uint64(4) {
		p.wantAnswer(api.Answer{Secret: 30 + s}, as(1, 13, attenuate(1, 1, grid(), ever)), 30+s, 0)
	}
	p.want(api.StFull, as(1, 11, attenuate(1, 1, grid(), 9)), 40, 9)
	// At 21 all go that were made of 12.
	p.wantAnswer(api.Answer{Secret: 40}, as(1, 11, attenuate(1, 1, grid(), ever)), 40, 21)
	if l := p.x.Tickets(1, 0); len(l) != 2 {
		t.Errorf("%+v", l)
	}
	// The member 0 attenuates its own, one without any rights too.
	p.wantAnswer(api.Answer{Secret: 50}, by9(attenuate(0, 0, rc(7, 7, 7, 7), 0)), 50, 0)
	p.wantAnswer(api.Answer{Secret: 51}, as(0, 50, attenuate(0, 0, rc(8, 8, 8, 8), 0)), 51, 0)
	if l := p.x.Tickets(0, 0); len(l) != 3 || l[2].Parent != 50 {
		t.Errorf("%+v", l)
	}
}

func TestRevoke(t *testing.T) {
	p := cast(t)
	p.want(api.StOK, as(1, 11, attenuate(31, 16, grid(), ever)), 12, 0)
	p.want(api.StOK, as(1, 12, attenuate(0, 16, grid(), ever)), 13, 0)
	p.want(api.StOK, as(1, 11, attenuate(0, 16, grid(), ever)), 14, 0)
	p.want(api.StOK, as(1, 14, attenuate(31, 16, grid(), 9)), 15, 0)
	for _, s := range []uint64{0, 16, 22, 9, math.MaxUint64} {
		p.want(api.StNone, as(1, 11, revoke(s)), 0, 0) // of its own table alone
	}
	p.want(api.StNone, as(1, 14, revoke(15)), 0, 10)
	p.want(api.StOK, as(1, 14, revoke(12)), 0, 0) // 13 goes with it
	if l := p.x.Tickets(1, 0); len(l) != 2 || l[1].Secret != 14 {
		t.Errorf("%+v", l)
	}
	p.want(api.StUnknown, as(1, 13, revoke(11)), 0, 0)
	p.want(api.StOK, as(1, 14, revoke(11)), 0, 0) // and with it itself
	p.wantLast(api.Event{User: 1, Op: api.OpRevoke})
	p.want(api.StUnknown, as(1, 14, revoke(11)), 0, 0)
	p.want(api.StOK, as(2, 22, revoke(22)), 0, 0)
	// The member 0 may lock itself out.
	p.want(api.StOK, by9(revoke(9)), 0, 0)
	p.want(api.StUnknown, by9(drain(1)), 0, 0)
}

func TestProfile(t *testing.T) {
	p := cast(t)
	for _, f := range []api.Profile{{K: 1}, {K: 65535, Area: math.MaxUint64}, {K: 2, Area: 1 << 32}} {
		p.want(api.StOK, as(1, 11, profile(f.K, f.Area)), 0, 0)
		if m := p.x.Members()[1]; m.Profile != f {
			t.Error(m)
		}
	}
	p.want(api.StArg, as(1, 11, profile(0, 0)), 0, 0)
	p.want(api.StArg, as(1, 11, profile(0, 7)), 0, 0)
	p.want(api.StArg, by9(profile(2, 7)), 0, 0)
	p.want(api.StArg, by9(profile(0, 0)), 0, 0)
}

func TestReportRemoveWhere(t *testing.T) {
	p := cast(t)
	p.want(api.StNone, as(1, 11, op(api.OpWhere)), 0, 0)
	p.want(api.StNone, as(1, 11, op(api.OpRemove)), 0, 0)
	where := func(x, y, label int) {
		t.Helper()
		p.want(api.StOK, as(1, 11, report(x, y, label)), 0, 0)
		p.wantAnswer(api.Answer{Record: api.Record{At: pt(x, y), Label: label}}, as(1, 11, op(api.OpWhere)), 0, 0)
		if l := p.x.Points(); !slices.Equal(l, p.m.points()) {
			t.Error("Points:", l)
		}
	}
	p.want(api.StOK, as(2, 22, report(7, 7, 7)), 0, 0)
	p.want(api.StOK, by9(report(7, 7, 0)), 0, 0)
	where(0, 0, 0)
	where(last, last, 7)
	where(7, 7, 1) // three stand there
	where(7, 7, 2)
	where(7, 0, 2)
	p.want(api.StOK, as(1, 11, op(api.OpRemove)), 0, 0)
	p.want(api.StNone, as(1, 11, op(api.OpWhere)), 0, 0)
	p.want(api.StNone, as(1, 11, op(api.OpRemove)), 0, 0)
	if l := p.x.Points(); !slices.Equal(l, []api.Point{pt(7, 7), pt(7, 7)}) {
		t.Error("Points:", l)
	}
	p.wantAnswer(api.Answer{Record: api.Record{At: pt(7, 7)}}, by9(op(api.OpWhere)), 0, 0)
}

func TestPublish(t *testing.T) {
	p := at9(t)
	for user := 1; user <= 4; user++ {
		p.want(api.StOK, by9(enrol(user, user, 0, 99)), 0, 0)
		p.want(api.StOK, by9(mint(user, 31, ever)), uint64(10*user), 0)
	}
	me := func(r api.Request) api.Request { return as(1, 10, r) }
	publish := me(op(api.OpPublish))
	p.want(api.StDenied, publish, 0, 0) // the policy lets no one cloak
	p.want(api.StOK, by9(policy("cloak role 2; cloak role 0;")), 0, 0)
	p.want(api.StDenied, publish, 0, 0)
	p.want(api.StOK, by9(policy("cloak role 1; cloak role 0;")), 0, 0)
	p.want(api.StNone, publish, 0, 0)
	p.want(api.StOK, me(report(0, 0, 3)), 0, 0)
	p.want(api.StArg, publish, 0, 0)
	p.want(api.StOK, me(profile(2, 2)), 0, 0)
	p.want(api.StUnavailable, publish, 0, 0) // there is no one else
	for user, at := range map[int]api.Point{2: pt(1, 0), 3: pt(0, 1), 4: pt(0, 1)} {
		p.want(api.StOK, as(user, uint64(10*user), report(at.X, at.Y, 0)), 0, 0)
	}
	p.wantAnswer(api.Answer{Box: rc(0, 0, 1, 0)}, publish, 0, 0)
	if l := p.x.Shapes(); !slices.Equal(l, []api.Shape{{ID: 1, Box: rc(0, 0, 1, 0), Label: 3}}) {
		t.Error(l)
	}
	// The cloak stays as it is while its member goes elsewhere, till that publishes anew.
	p.want(api.StOK, me(report(9, 9, 4)), 0, 0)
	p.want(api.StOK, me(op(api.OpRemove)), 0, 0)
	p.want(api.StNone, publish, 0, 0)
	p.want(api.StOK, me(report(2, 2, 4)), 0, 0)
	p.want(api.StOK, by9(policy("")), 0, 0)
	p.want(api.StDenied, publish, 0, 0)
	p.want(api.StArg, me(profile(0, 0)), 0, 0)
	if l := p.x.Shapes(); !slices.Equal(l, []api.Shape{{ID: 1, Box: rc(0, 0, 1, 0), Label: 3}}) {
		t.Error(l)
	}
	p.want(api.StOK, by9(policy("cloak role any;")), 0, 0)
	p.wantAnswer(api.Answer{Box: rc(0, 0, 3, 3)}, publish, 0, 0)
	if l := p.x.Shapes(); !slices.Equal(l, []api.Shape{{ID: 1, Box: rc(0, 0, 3, 3), Label: 4}}) {
		t.Error(l)
	}
	// With none the elder one goes.
	p.want(api.StOK, me(profile(5, 0)), 0, 0)
	p.want(api.StUnavailable, publish, 0, 0)
	if l := p.x.Shapes(); len(l) != 0 {
		t.Error(l)
	}
	p.want(api.StNone, me(op(api.OpWithdraw)), 0, 0)
	p.want(api.StOK, me(profile(4, 1<<32)), 0, 0)
	p.wantAnswer(api.Answer{Box: grid()}, publish, 0, 0)
	p.want(api.StOK, me(profile(1, 1<<32+1)), 0, 0)
	p.want(api.StUnavailable, publish, 0, 0)
	p.want(api.StOK, by9(report(0, 0, 0)), 0, 0)
	p.want(api.StArg, by9(op(api.OpPublish)), 0, 0) // the member 0 has no profile
}

func TestWithdraw(t *testing.T) {
	p := told(t)
	p.want(api.StOK, as(1, 11, op(api.OpWithdraw)), 0, 0)
	if l := p.x.Shapes(); len(l) != 1 || l[0].ID != 2 {
		t.Error(l)
	}
	p.want(api.StNone, as(1, 11, op(api.OpWithdraw)), 0, 0)
	p.want(api.StNone, by9(op(api.OpWithdraw)), 0, 0)
	// Also one who may not cloak any more withdraws, and one without a record.
	p.want(api.StOK, by9(policy("")), 0, 0)
	p.want(api.StOK, as(2, 22, op(api.OpRemove)), 0, 0)
	p.want(api.StOK, as(2, 22, op(api.OpWithdraw)), 0, 0)
}

func TestSeen(t *testing.T) {
	p := told(t)
	zero, one, two := api.Seen{ID: 0, Level: 14, Box: rc(0, 68, 3, 71)}, api.Seen{ID: 1, Level: 14, Box: rc(4, 8, 7, 11)}, api.Seen{ID: 2, Level: 13, Box: rc(0, 0, 7, 7)}
	p.wantSeen(as(1, 11, window(grid(), 64)), zero, one, two)
	p.wantSeen(as(1, 11, window(grid(), 2)), zero, one)
	p.wantSeen(as(1, 11, window(grid(), 0)))
	p.wantSeen(as(1, 11, window(rc(0, 7, 4, 8), 9)), one, two)
	p.wantSeen(as(1, 11, window(rc(0, 12, 4, 67), 9)))
	p.wantSeen(as(1, 11, near(pt(0, 70), 9)), zero, one, two)
	p.wantSeen(as(1, 11, near(pt(0, 0), 2)), two, one)
	p.wantSeen(as(1, 11, near(pt(0, 0), 0)))
	one.Box = rc(0, 0, 7, 15)
	p.wantSeen(as(1, 11, cloaks(grid(), 64)), one, two)
	p.wantSeen(as(1, 11, cloaks(grid(), 1)), one)
	p.wantSeen(as(1, 11, cloaks(rc(0, 8, 0, 9), 64)), one)
	p.wantSeen(as(1, 11, nearCloaks(pt(0, 70), 64)), one, two)
	p.wantSeen(as(1, 11, nearCloaks(pt(1, 1), 1)), one)
	// 2 and the member 0 have another role and tier, for which nothing is allowed.
	for _, r := range []api.Request{window(grid(), 9), near(pt(5, 5), 9), cloaks(grid(), 9), nearCloaks(pt(5, 5), 9)} {
		p.wantSeen(as(2, 22, r))
		p.wantSeen(by9(r))
	}
	// Of a rectangle with less than that no more is seen than of its least zoom.
	p.want(api.StOK, as(1, 11, attenuate(api.MaySee, 12, grid(), ever)), 60, 0)
	p.wantSeen(as(1, 60, window(rc(0, 0, 9, 9), 9)), api.Seen{ID: 1, Level: 12, Box: rc(0, 0, 15, 15)}, api.Seen{ID: 2, Level: 12, Box: rc(0, 0, 15, 15)})
}

func TestTrailAndDrain(t *testing.T) {
	p := cast(t)
	p.want(api.StNone, as(1, 11, op(api.OpWhere)), 0, 1)
	p.want(api.StOK, as(2, 22, report(1, 1, 1)), 0, 2)
	p.want(api.StUnknown, as(1, 12, op(api.OpWhere)), 0, 3)
	p.want(api.StOK, as(1, 11, report(1, 1, 1)), 0, 4)
	one, two := api.Event{User: 1, Op: api.OpWhere, Status: api.StNone, Tick: 1}, api.Event{User: 1, Op: api.OpReport, Tick: 4}
	ask := func(from, m, now int, want ...api.Event) {
		t.Helper()
		p.wantAnswer(api.Answer{Events: want}, as(1, 11, trail(from, m)), 0, now)
	}
	asked := func(now int) api.Event { return api.Event{User: 1, Op: api.OpTrail, Tick: now} }
	ask(0, 9, 5, one, two) // without the one that it is itself
	ask(0, 9, 6, one, two, asked(5))
	ask(0, 0, 7)
	ask(0, 1, 8, one)
	ask(1, 2, 9, two, asked(5))
	ask(65535, 64, 10)
	ask(3, 64, 11, asked(6), asked(7), asked(8), asked(9), asked(10))
	// Drained, they are no one's any more, but for those that are left.
	p.wantAnswer(api.Answer{}, by9(drain(0)), 0, 0)
	p.wantAnswer(api.Answer{Events: []api.Event{{Op: api.OpEnrol}, {Op: api.OpEnrol}, {Op: api.OpMint}}}, by9(drain(3)), 0, 0)
	p.wantAnswer(api.Answer{Events: []api.Event{{Op: api.OpMint}, {Op: api.OpPolicy}, one}}, by9(drain(3)), 0, 0)
	ask(0, 1, 12, two)
	if p.x.Past() != 6 || p.x.Events()[0].User != 2 {
		t.Error(p.x.Past(), p.x.Events())
	}
	all := p.x.Events()
	p.wantAnswer(api.Answer{Events: all}, by9(drain(64)), 0, 7)
	if l := p.x.Events(); !slices.Equal(l, []api.Event{{Op: api.OpDrain, Tick: 7}}) || p.x.Past() != 6+len(all) {
		t.Error(l, p.x.Past())
	}
	// The member 0's trail is its own as well: what is told of nobody is in no one's.
	p.want(api.StUnknown, as(0, 8, op(api.OpWhere)), 0, 8)
	p.wantAnswer(api.Answer{Events: []api.Event{{Op: api.OpDrain, Tick: 7}}}, by9(trail(0, 64)), 0, 9)
}
