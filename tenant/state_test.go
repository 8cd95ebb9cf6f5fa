package tenant_test

import (
	"math"
	"slices"
	"strings"
	"testing"

	"paravent/api"
	"paravent/tenant"
)

// P22.7

// ticket is a ticket for all.
func ticket(secret, parent uint64) api.Ticket {
	return api.Ticket{Secret: secret, Parent: parent, Grant: full()}
}

// great is a state with as much as there may be of each thing, and as great and as small.
func great() api.State {
	var eight []api.Ticket
	for s := range uint64(8) {
		eight = append(eight, ticket(s+1, s))
	}
	return api.State{
		Members: []api.Member{
			{Quota: 65535},
			{User: 1, Profile: api.Profile{K: 1}},
			{User: 2, Role: 7, Tier: 7, Quota: 65535},
			{User: 65534, Role: 1, Tier: 2, Quota: 3, Profile: api.Profile{K: 65535, Area: math.MaxUint64}},
		},
		Tickets: [][]api.Ticket{
			eight,
			{},
			{{Secret: math.MaxUint64, Grant: api.Grant{Void: true}}, {Secret: 5, Parent: math.MaxUint64, Grant: api.Grant{Ops: 31, Zoom: 16, Box: rc(0, 0, 0, 0), Until: ever}}},
			{ticket(1, 0)},
		},
		Records: []api.Record{{At: pt(last, last), Label: 7}, {ID: 1}, {ID: 65534, At: pt(0, last), Label: 3}},
		Shapes:  []api.Shape{{Box: grid(), Label: 7}, {ID: 2, Box: rc(0, 0, 0, 0)}, {ID: 65534, Box: rc(1, 2, 3, 4), Label: 1}},
		Text:    strings.Repeat("cloak role any; ", 32),
		Events: []api.Event{
			{Op: 1}, {User: 65535, Op: 19, Status: 12, Tick: ever}, {User: 65534, Op: 18, Status: 11}, {User: 40000, Op: 10, Status: 4, Tick: 9},
		},
		Past: api.MaxPast,
	}
}

// wantImport holds a tenant that has a state against the model that has it.
func wantImport(t *testing.T, s api.State) *pair {
	t.Helper()
	x, e := tenant.Import(s)
	if e != api.OK {
		t.Fatalf("Import(%+v): %d", s, e)
	}
	m := (&model{s}).copied()
	if got := x.Export(); !same(got, m.State) {
		t.Fatalf("Export of Import(%+v): %+v", m.State, got)
	}
	return &pair{t, x, m}
}

func TestImport(t *testing.T) {
	p := wantImport(t, great())
	if l := p.x.Points(); !slices.Equal(l, p.m.points()) {
		t.Error("Points:", l)
	}
	if !p.x.Cloaks(7) || len(p.x.Patches(1, 1, 1)) != 0 {
		t.Error("the policy is not there")
	}
	p.want(api.StFull, as(0, 8, mint(0, 1, 1)), 77, 9)
	p.want(api.StOK, as(65534, 1, op(api.OpRemove)), 0, 9)
	p.want(api.StOK, as(65534, 1, op(api.OpWithdraw)), 0, 9)
	p.wantAnswer(api.Answer{Record: api.Record{At: pt(last, last), Label: 7}}, as(0, 3, op(api.OpWhere)), 0, 9)
	p.want(api.StNone, as(65534, 1, op(api.OpWhere)), 0, 9)
	p.want(api.StQuota, as(65534, 1, op(api.OpWhere)), 0, 9)
	p.want(api.StOK, as(0, 1, dismiss(1)), 0, 9)
	wantImport(t, first(9).State)
	for _, text := range []string{"", "#", " \n", sight} {
		s := great()
		s.Text = text
		wantImport(t, s)
	}
}

// The member 0 may have no ticket, and a cloak needs neither a record nor a profile nor a role that may cloak.
func TestImportOfLittle(t *testing.T) {
	s := first(9).State
	s.Tickets[0] = nil
	s.Shapes = []api.Shape{{Box: rc(1, 1, 1, 2), Label: 2}}
	s.Past = 1
	p := wantImport(t, s)
	p.want(api.StUnknown, by9(drain(1)), 0, 0)
	// Tickets that are over at many ticks are had as well, till they are asked at one.
	s.Tickets[0] = []api.Ticket{{Secret: 9, Grant: api.Grant{Ops: 31, Until: 4}}}
	p = wantImport(t, s)
	p.want(api.StOK, by9(op(api.OpWithdraw)), 0, 4)
	p.want(api.StUnknown, by9(op(api.OpWithdraw)), 0, 5)
}

// As many as there may be were drained: Past stays there, and what is drained is told all the same.
func TestGreatestPast(t *testing.T) {
	s := first(9).State
	s.Events, s.Past = great().Events, api.MaxPast-1
	p := wantImport(t, s)
	p.wantAnswer(api.Answer{Events: s.Events[:2]}, by9(drain(2)), 0, 0)
	p.wantAnswer(api.Answer{Events: append(s.Events[2:], api.Event{Op: api.OpDrain})}, by9(drain(64)), 0, 0)
	if p.x.Past() != api.MaxPast {
		t.Error(p.x.Past())
	}
	wantImport(t, p.x.Export())
}

// badStates may not be, for one reason each.
func badStates() []api.State {
	var l []api.State
	turn := func(how func(*api.State)) {
		s := great()
		how(&s)
		l = append(l, s)
	}
	turn(func(s *api.State) { *s = api.State{} })
	turn(func(s *api.State) { s.Members = nil })
	turn(func(s *api.State) { s.Members, s.Tickets = s.Members[1:], s.Tickets[1:] })
	badMembers(turn)
	badTickets(turn)
	badThings(turn)
	for _, text := range []string{"?", "role = 3;", "role a = 8;", "cloak role a;", "cloak", strings.Repeat("#", 513), great().Text + "cloak role any;"} {
		turn(func(s *api.State) { s.Text = text })
	}
	for at := range great().Events {
		for _, n := range []int{math.MinInt, -1, math.MaxInt} {
			turn(func(s *api.State) { s.Events[at].User = n })
			turn(func(s *api.State) { s.Events[at].Op = n })
			turn(func(s *api.State) { s.Events[at].Status = n })
			turn(func(s *api.State) { s.Events[at].Tick = n })
		}
		turn(func(s *api.State) { s.Events[at].User = 65536 })
		turn(func(s *api.State) { s.Events[at].Op = 0 })
		turn(func(s *api.State) { s.Events[at].Op = 20 })
		turn(func(s *api.State) { s.Events[at].Status = 13 })
		turn(func(s *api.State) { s.Events[at].Tick = ever + 1 })
	}
	for _, n := range []int{math.MinInt, -1, api.MaxPast + 1, math.MaxInt} {
		turn(func(s *api.State) { s.Past = n })
	}
	return l
}

// badMembers turns the members to such as may not be.
func badMembers(turn func(func(*api.State))) {
	for _, m := range []api.Member{{}, {Quota: 65534}, {Quota: 65535, Role: 1}, {Quota: 65535, Tier: 1}, {Quota: 65535, Profile: api.Profile{K: 1}}, {Quota: 65535, User: 1}, {Quota: 65535, User: -1}} {
		turn(func(s *api.State) { s.Members[0] = m })
	}
	for at := 1; at < 4; at++ {
		for _, n := range []int{math.MinInt, -1, 65536, math.MaxInt} {
			turn(func(s *api.State) { s.Members[at].User = n })
			turn(func(s *api.State) { s.Members[at].Role = n })
			turn(func(s *api.State) { s.Members[at].Tier = n })
			turn(func(s *api.State) { s.Members[at].Quota = n })
			turn(func(s *api.State) { s.Members[at].Profile.K = n })
		}
		turn(func(s *api.State) { s.Members[at].User = 0 })
		turn(func(s *api.State) { s.Members[at].User = s.Members[at-1].User })
		turn(func(s *api.State) { s.Members[at].User = 65535 })
		turn(func(s *api.State) { s.Members[at].Role = 8 })
		turn(func(s *api.State) { s.Members[at].Tier = 8 })
		turn(func(s *api.State) { s.Members[at].Profile = api.Profile{Area: 1} })
	}
	turn(func(s *api.State) { s.Members[1], s.Members[2] = s.Members[2], s.Members[1]; s.Records[1].ID = 2 })
	turn(func(s *api.State) {
		s.Members = append(s.Members, api.Member{User: 65535})
		s.Tickets = append(s.Tickets, nil)
	})
}

// badTickets turns the tickets to such as may not be.
func badTickets(turn func(func(*api.State))) {
	turn(func(s *api.State) { s.Tickets = nil })
	turn(func(s *api.State) { s.Tickets = s.Tickets[:3] })
	turn(func(s *api.State) { s.Tickets = append(s.Tickets, nil) })
	turn(func(s *api.State) { s.Members = s.Members[:3]; s.Records, s.Shapes = s.Records[:2], s.Shapes[:2] })
	turn(func(s *api.State) { s.Tickets[0] = append(s.Tickets[0], ticket(9, 0)) })
	turn(func(s *api.State) { s.Tickets[1] = []api.Ticket{ticket(0, 0)} })
	turn(func(s *api.State) { s.Tickets[1] = []api.Ticket{ticket(5, 1)} }) // another one's
	for at := range 4 {
		row := func(s *api.State) *api.Ticket {
			if len(s.Tickets[at]) == 0 {
				s.Tickets[at] = []api.Ticket{ticket(3, 0)}
			}
			return &s.Tickets[at][len(s.Tickets[at])-1]
		}
		turn(func(s *api.State) { row(s).Secret = 0 })
		turn(func(s *api.State) { row(s).Parent = row(s).Secret })
		turn(func(s *api.State) { row(s).Parent = 77 })
		turn(func(s *api.State) { row(s).Grant.Ops = 32 })
		turn(func(s *api.State) { row(s).Grant.Ops = -1 })
		turn(func(s *api.State) { row(s).Grant.Zoom = 17 })
		turn(func(s *api.State) { row(s).Grant.Until = ever + 1 })
		turn(func(s *api.State) { row(s).Grant.Until = -1 })
		turn(func(s *api.State) { row(s).Grant.Box = rc(1, 0, 0, 0) })
		turn(func(s *api.State) { row(s).Grant.Box, row(s).Grant.Void = grid(), true })
		turn(func(s *api.State) { k := *row(s); s.Tickets[at] = append(s.Tickets[at], k) })
	}
}

// badThings turns records and cloaks to such as may not be.
func badThings(turn func(func(*api.State))) {
	for at := range 3 {
		for _, n := range []int{math.MinInt, -1, 3, 65535, math.MaxInt} {
			turn(func(s *api.State) { s.Records[at].ID = n })
			turn(func(s *api.State) { s.Shapes[at].ID = n })
		}
		for _, n := range []int{math.MinInt, -1, 8, math.MaxInt} {
			turn(func(s *api.State) { s.Records[at].Label = n })
			turn(func(s *api.State) { s.Shapes[at].Label = n })
		}
		for _, n := range []int{math.MinInt, -1, api.Side, math.MaxInt} {
			turn(func(s *api.State) { s.Records[at].At.X = n })
			turn(func(s *api.State) { s.Records[at].At.Y = n })
			turn(func(s *api.State) { s.Shapes[at].Box.X1 = n })
			turn(func(s *api.State) { s.Shapes[at].Box.Y0 = n })
		}
		next := (at + 1) % 3
		turn(func(s *api.State) { s.Records[at], s.Records[next] = s.Records[next], s.Records[at] })
		turn(func(s *api.State) { s.Shapes[at], s.Shapes[next] = s.Shapes[next], s.Shapes[at] })
		turn(func(s *api.State) { s.Records[at].ID = s.Records[next].ID })
		turn(func(s *api.State) { s.Shapes[at].ID = s.Shapes[next].ID })
		turn(func(s *api.State) { s.Records = slices.Insert(s.Records, at, s.Records[at]) })
		turn(func(s *api.State) { s.Shapes = slices.Insert(s.Shapes, at, s.Shapes[at]) })
	}
	// One whose member is gone.
	turn(func(s *api.State) { s.Members, s.Tickets, s.Shapes = s.Members[:3], s.Tickets[:3], s.Shapes[:2] })
	turn(func(s *api.State) { s.Members, s.Tickets, s.Records = s.Members[:3], s.Tickets[:3], s.Records[:2] })
}

func TestImportOfWhatMayNotBe(t *testing.T) {
	for i, s := range badStates() {
		if x, e := tenant.Import(s); x != nil || e != api.ErrArg {
			t.Errorf("%d: Import(%+v): %v, %d", i, s, x, e)
		}
	}
}

// What is handed in is neither changed nor kept, and what is handed out is not either.
func TestImportKeepsNothing(t *testing.T) {
	s := great()
	s.Members[3].Quota, s.Past = 500, 5
	p := wantImport(t, s)
	given := (&model{s}).copied()
	for _, r := range everyOp() {
		p.ask(as(0, 1, r), 99, 3)
		p.ask(as(65534, 1, r), 98, 3)
	}
	if !same(s, given.State) {
		t.Error("what was handed in is changed:", s)
	}
	spoil(s)
	p.agree()
	out := p.x.Export()
	was := p.m.copied()
	for _, r := range everyOp() {
		p.ask(as(0, 1, r), 97, 3)
		p.ask(as(65534, 1, r), 96, 3)
	}
	if !same(out, was.State) {
		t.Error("what was handed out is changed:", out)
	}
}
