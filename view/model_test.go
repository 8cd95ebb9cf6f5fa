package view_test

import (
	"math/rand"
	"slices"
	"testing"

	"paravent/api"
	"paravent/grant"
	"paravent/rules"
	"paravent/view"
)

// texts are policies by which some see and some may cloak, others not.
func texts() []string {
	return []string{
		"",
		"allow role any tier any label any in all zoom 14;",
		"allow role any tier any label any in all zoom 14; cloak role any;",
		"region w = 0 0 15 15; role nurse = 1; label bed = 1; allow role nurse tier 0..1 label any in w zoom 15;" +
			"allow role any tier any label bed in all zoom 13; cap role nurse tier any label any in w zoom 14; cloak role 0; cloak role 1;",
		"region e = 8 0 15 31; allow role any tier any label any in all zoom 15; cap role any tier any label any in e zoom 13;" +
			"cap role any tier 2 label any in all zoom 0; cloak role 2;",
		"allow role 1 tier any label any in all zoom 16; cap role any tier any label 2 in all zoom 11; cloak role 1;",
	}
}

// A maker makes states at random.
type maker struct{ *rand.Rand }

// oneOf is one of some.
func oneOf[T any](r maker, l ...T) T { return l[r.Intn(len(l))] }

// spot is a point, mostly one near to others.
func (r maker) spot() api.Point {
	at := pt(r.Intn(16), r.Intn(16))
	if r.Intn(6) == 0 {
		at = pt(last-at.X, last-at.Y)
	}
	return at
}

// box is a small rectangle, or now and then one with two far corners.
func (r maker) box() api.Rect {
	a, b := r.spot(), pt(r.Intn(16), r.Intn(16))
	return rc(min(a.X, b.X), min(a.Y, b.Y), max(a.X, b.X), max(a.Y, b.Y))
}

// tick is one at which some tickets are over.
func (r maker) tick() int { return oneOf(r, 0, ever, r.Intn(100), r.Intn(100), r.Intn(100)) }

// grant is a grant, mostly for all.
func (r maker) grant() api.Grant {
	g := full()
	if r.Intn(3) == 0 {
		g = api.Grant{Ops: r.Intn(32), Zoom: r.Intn(17), Box: oneOf(r, grid(), r.box()), Until: oneOf(r, ever, r.Intn(100))}
	}
	return g
}

// tickets are those of a table.
func (r maker) tickets() []api.Ticket {
	var l []api.Ticket
	secrets := r.Perm(30)
	for i := range r.Intn(5) {
		k := api.Ticket{Secret: uint64(secrets[i] + 1), Grant: r.grant()}
		if i > 0 && r.Intn(2) == 0 {
			k.Parent = l[r.Intn(i)].Secret
		}
		l = append(l, k)
	}
	return l
}

// member is a member.
func (r maker) member(user int) api.Member {
	return api.Member{
		User: user, Role: r.Intn(3), Tier: r.Intn(3), Quota: oneOf(r, 0, 3, 1000, 1000, 1000),
		Profile: oneOf(r, api.Profile{}, api.Profile{K: 1 + r.Intn(4), Area: oneOf(r, uint64(0), 1, 4, 64)}, api.Profile{K: 2, Area: 2}),
	}
}

// event is an event of anyone.
func (r maker) event() api.Event {
	return api.Event{User: oneOf(r, r.Intn(7), 65535), Op: 1 + r.Intn(19), Status: r.Intn(13), Tick: r.Intn(100)}
}

// state is a state that may be.
func (r maker) state() api.State {
	s := api.State{
		Members: []api.Member{{Quota: 65535}}, Tickets: [][]api.Ticket{append(r.tickets(), api.Ticket{Secret: 99, Grant: full()})},
		Text: oneOf(r, texts()...), Past: r.Intn(3),
	}
	for user := 1; user < 7; user++ {
		if r.Intn(4) > 0 {
			s.Members, s.Tickets = append(s.Members, r.member(user)), append(s.Tickets, r.tickets())
		}
	}
	for _, m := range s.Members {
		if r.Intn(4) > 0 {
			s.Records = append(s.Records, api.Record{ID: m.User, At: r.spot(), Label: r.Intn(3)})
		}
		if r.Intn(2) == 0 {
			s.Shapes = append(s.Shapes, api.Shape{ID: m.User, Box: r.box(), Label: r.Intn(3)})
		}
	}
	for range r.Intn(10) {
		s.Events = append(s.Events, r.event())
	}
	return s
}

// worded is the view of a user of a tenant with a state, in the document's words.
func worded(s api.State, user, now int) api.View {
	at := slices.IndexFunc(s.Members, func(m api.Member) bool { return m.User == user })
	if at < 0 {
		return api.View{Tick: now}
	}
	m := s.Members[at]
	l, _ := rules.Read(s.Text)
	table, _ := grant.New(l)
	v := api.View{Member: m, Known: true, Tick: now, Tickets: leftAt(s.Tickets[at], now), Cloak: rules.Cloaks(l, m.Role)}
	for label := 0; label <= 7; label++ {
		v.Patches = append(v.Patches, table.Patches(m.Role, m.Tier, label))
	}
	for _, x := range s.Records {
		if x.ID == user || user == 0 {
			v.Records = append(v.Records, x)
		}
		v.Seen = append(v.Seen, seenOf(table, m, api.Shape{ID: x.ID, Box: rc(x.At.X, x.At.Y, x.At.X, x.At.Y), Label: x.Label})...)
	}
	for _, x := range s.Shapes {
		if x.ID == user || user == 0 {
			v.Own = append(v.Own, x)
		}
		v.Cloaks = append(v.Cloaks, seenOf(table, m, x)...)
	}
	for _, e := range s.Events {
		if e.User == user || user == 0 {
			v.Events = append(v.Events, e)
		}
	}
	if v.Cloak || user == 0 {
		v.Counts = points(s)
	}
	if user == 0 {
		v.Members, v.Text, v.Tickets = s.Members, s.Text, nil
		for at, m := range s.Members {
			v.Tickets = append(append(v.Tickets, header(uint64(m.User))), leftAt(s.Tickets[at], now)...)
		}
	}
	return v
}

// leftAt are the tickets that are not over at a tick.
func leftAt(l []api.Ticket, now int) []api.Ticket {
	var left []api.Ticket
	for _, k := range l {
		from := func(x api.Ticket) bool { return x.Secret == k.Parent }
		if k.Grant.Until >= now && (k.Parent == 0 || slices.ContainsFunc(left, from)) {
			left = append(left, k)
		}
	}
	return left
}

// seenOf is what a member sees of a rectangle, if anything.
func seenOf(table *grant.Table, m api.Member, x api.Shape) []api.Seen {
	level := table.Of(m.Role, m.Tier, x.Label, x.Box)
	if level == 0 {
		return nil
	}
	side := 1 << (16 - level)
	b := rc(x.Box.X0/side*side, x.Box.Y0/side*side, x.Box.X1/side*side+side-1, x.Box.Y1/side*side+side-1)
	return []api.Seen{{ID: x.ID, Level: level, Box: b}}
}

// points are all records' points, by the codes of their cells: the bits of X and Y by turns, those of Y ahead.
func points(s api.State) []api.Point {
	var l []api.Point
	for _, x := range s.Records {
		l = append(l, x.At)
	}
	code := func(p api.Point) int {
		n := 0
		for bit := range 16 {
			n += (p.X>>bit%2 + p.Y>>bit%2*2) << (2 * bit)
		}
		return n
	}
	slices.SortFunc(l, func(a, b api.Point) int { return code(a) - code(b) })
	return l
}

// P23.1: a view is as the document words it, and lets just those tickets go that are over.
func TestViewsAreAsWorded(t *testing.T) {
	r := maker{rand.New(rand.NewSource(1))}
	told := map[string]int{}
	for range 4000 {
		s := r.state()
		x := of(t, s)
		user, now := r.Intn(8), r.tick()
		v := view.Of(x, user, now)
		if w := worded(s, user, now); !equal(v, w) {
			t.Fatalf("of %d at %d the view of %+v is\n%+v, want\n%+v", user, now, s, v, w)
		}
		for at, m := range s.Members {
			if user == 0 || user == m.User {
				s.Tickets[at] = leftAt(s.Tickets[at], now)
			}
		}
		if is := x.Export(); !equal(is, s) {
			t.Fatalf("of %d at %d the state is %+v, want %+v", user, now, is, s)
		}
		count(told, v)
	}
	for _, what := range []string{"seen", "cloaks", "counts", "uncounted", "tickets", "unknown"} {
		if told[what] < 300 {
			t.Error("too seldom:", what, told[what])
		}
	}
}

// count counts what views tell.
func count(told map[string]int, v api.View) {
	for what, is := range map[string]bool{
		"seen": len(v.Seen) > 0, "cloaks": len(v.Cloaks) > 0, "counts": len(v.Counts) > 0, "uncounted": v.Known && !v.Cloak,
		"tickets": len(v.Tickets) > 1, "unknown": !v.Known,
	} {
		if is {
			told[what]++
		}
	}
}

// P23.2: whether two views of random tenants are the same is whether all they tell is.
func TestSameOfViews(t *testing.T) {
	r := maker{rand.New(rand.NewSource(2))}
	n := [2]int{}
	for range 2000 {
		s := r.state()
		twin := r.twin(s)
		user, now := r.Intn(8), r.tick()
		a, b := view.Of(of(t, s), user, now), view.Of(of(t, twin), user, now)
		same := equal(a, b)
		if view.Same(a, b) != same || view.Same(b, a) != same {
			t.Fatalf("%+v and %+v: %v", a, b, !same)
		}
		if same {
			n[1]++
		} else {
			n[0]++
		}
	}
	if min(n[0], n[1]) < 300 {
		t.Error("too seldom the same, or not:", n)
	}
}
