package tenant

import (
	"paravent/api"
	"paravent/token"
)

// Export is a tenant's state.
func (t *Tenant) Export() api.State {
	s := api.State{
		Members: t.Members(),
		Records: t.Records(),
		Shapes:  t.Shapes(),
		Text:    t.Text(),
		Events:  t.Events(),
		Past:    t.Past(),
	}
	for _, m := range s.Members {
		s.Tickets = append(s.Tickets, t.Tickets(m.User, 0)) // at the tick 0 no ticket is over, and so none goes
	}
	return s
}

// Import is the tenant that has a state. It is built as states are built, and is none as soon as something may not be.
func Import(s api.State) (*Tenant, api.Errno) {
	t := empty()
	for _, take := range []func(api.State) bool{t.takeMembers, t.takeTickets, t.takeRecords, t.takeShapes, t.takeText, t.takeTrail} {
		if !take(s) {
			return nil, api.ErrArg
		}
	}
	return t, api.OK
}

// takeMembers takes the members. The first one is the member 0, which is there.
func (t *Tenant) takeMembers(s api.State) bool {
	first, _ := t.members.Find(0)
	if len(s.Members) == 0 || s.Members[0] != first || !rise(numbers(s.Members, user)) {
		return false
	}
	for _, m := range s.Members[1:] {
		if !t.takeMember(m) {
			return false
		}
	}
	return true
}

// takeMember enrols a member, without a profile, as one is enrolled, and then gives it its own.
func (t *Tenant) takeMember(m api.Member) bool {
	f := m.Profile
	m.Profile = api.Profile{}
	if t.enrol(m, token.New()) != api.OK {
		return false
	}
	return f == m.Profile || t.members.Profile(m.User, f) == api.OK
}

// takeTickets takes the members' tickets, a row for each.
func (t *Tenant) takeTickets(s api.State) bool {
	if len(s.Tickets) != len(s.Members) {
		return false
	}
	for i, m := range s.Members {
		table, err := token.From(s.Tickets[i])
		if err != api.OK {
			return false
		}
		t.tables[m.User] = table
	}
	return true
}

// takeRecords takes the records.
func (t *Tenant) takeRecords(s api.State) bool {
	if !t.areOwn(numbers(s.Records, owner)) {
		return false
	}
	for _, r := range s.Records {
		if !within(r.Label, 0, api.MaxLabel) || t.stand(r) != api.OK {
			return false
		}
	}
	return true
}

// takeShapes takes the cloaks.
func (t *Tenant) takeShapes(s api.State) bool {
	if !t.areOwn(numbers(s.Shapes, hider)) {
		return false
	}
	for _, x := range s.Shapes {
		if !within(x.Label, 0, api.MaxLabel) || t.shapes.Put(x) != api.OK {
			return false
		}
	}
	return true
}

// takeText takes the policy.
func (t *Tenant) takeText(s api.State) bool {
	return t.rule(s.Text)
}

// takeTrail takes the trail.
func (t *Tenant) takeTrail(s api.State) bool {
	for _, e := range s.Events {
		if !mayBe(e) {
			return false
		}
		t.trail.Put(e)
	}
	return t.trail.Skip(s.Past)
}

// mayBe tells whether an event may be.
func mayBe(e api.Event) bool {
	return within(e.User, 0, api.Nobody) && within(e.Op, api.OpEnrol, api.OpQuota) &&
		within(e.Status, api.StOK, api.StPolicy) && within(e.Tick, 0, api.MaxTick)
}

// areOwn tells whether numbers rise and are members' users.
func (t *Tenant) areOwn(l []int) bool {
	for _, n := range l {
		if _, ok := t.members.Find(n); !ok {
			return false
		}
	}
	return rise(l)
}

// rise tells whether each number is greater than the one ahead of it.
func rise(l []int) bool {
	for i := 1; i < len(l); i++ {
		if l[i-1] >= l[i] {
			return false
		}
	}
	return true
}

// numbers are things' numbers, in the things' order.
func numbers[T any](l []T, number func(T) int) []int {
	var all []int
	for _, x := range l {
		all = append(all, number(x))
	}
	return all
}

// Whose a member, a record, a cloak is.

func user(m api.Member) int { return m.User }

func owner(r api.Record) int { return r.ID }

func hider(s api.Shape) int { return s.ID }
