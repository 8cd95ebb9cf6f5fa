package tenant_test

import (
	"math"
	"math/rand"
	"slices"
	"testing"

	"paravent/api"
	"paravent/geom"
	"paravent/plan"
	"paravent/tenant"
)

// A player plays random turns on a tenant and its model.
type player struct {
	*pair
	r   *rand.Rand
	now int
}

// users are those who may be enrolled here, texts the policies, of which some are none.

func users() []int { return []int{1, 2, 3, 4, 5, 6, 65534} }

func texts() []string {
	return []string{
		"", sight, sight, sight, sight,
		"region w = 0 0 19 19 + 65530 65530 65535 65535; role nurse = 2; label bed = 1;" +
			"allow role nurse tier 0..4 label any in w zoom 16; allow role any tier any label bed in all zoom 13;" +
			"cap role 1 tier any label any in w zoom 12; cloak role nurse; cloak role 0; cloak role 1;",
		"region e = 8 0 15 31; allow role any tier any label any in all zoom 15; cap role any tier any label any in e zoom 14; cap role any tier 2 label any in all zoom 0; cloak role any;",
		"allow role any tier any label any in all zoom 16; cap role any tier any label 2 in all zoom 11; cloak role 1; cloak role 2;",
		"role = 3;", "cloak role nurse;", "allow role any tier any label any in all zoom 17;",
	}
}

// someone is a user: mostly a member, now and then the member 0 or none.
func (p *player) someone() int {
	if p.r.Intn(8) == 0 {
		return []int{0, 65535, 7, p.r.Intn(65536)}[p.r.Intn(4)]
	}
	return users()[p.r.Intn(len(users()))]
}

// asker is a user who asks: mostly one that has tickets.
func (p *player) asker() int {
	m := p.m.Members[p.r.Intn(len(p.m.Members))]
	if p.r.Intn(10) == 0 || len(p.m.Tickets[p.m.at(m.User)]) == 0 {
		return p.someone()
	}
	return m.User
}

// enrolled is a user who is enrolled, mostly.
func (p *player) enrolled() int {
	if p.r.Intn(6) == 0 {
		return p.someone()
	}
	return p.m.Members[p.r.Intn(len(p.m.Members))].User
}

// draw is a number for a secret, close to many others; now and then 0.
func (p *player) draw() uint64 {
	if p.r.Intn(40) == 0 {
		return 0
	}
	return uint64(1 + p.r.Intn(60))
}

// held is a secret of a user: mostly one that it has, and often the one that it has longest.
func (p *player) held(user int) uint64 {
	at := p.m.at(user)
	if at < 0 || len(p.m.Tickets[at]) == 0 || p.r.Intn(20) == 0 {
		return p.draw()
	}
	row := p.m.Tickets[at]
	return row[p.r.Intn(len(row))*p.r.Intn(2)].Secret
}

// spot is a point in one of two corners, mostly near to others.
func (p *player) spot() api.Point {
	wide := []int{4, 12, 30}[p.r.Intn(3)]
	at := pt(p.r.Intn(wide), p.r.Intn(wide))
	if p.r.Intn(6) == 0 {
		at = pt(last-at.X, last-at.Y)
	}
	return at
}

// box is a rectangle, mostly a small one.
func (p *player) box() api.Rect {
	if p.r.Intn(3) == 0 {
		return grid()
	}
	a, b := p.spot(), p.spot()
	return rc(min(a.X, b.X), min(a.Y, b.Y), max(a.X, b.X), max(a.Y, b.Y))
}

// rights are all, most or some.
func (p *player) rights() int {
	return []int{31, 31, 31, 23, 7, p.r.Intn(32)}[p.r.Intn(6)]
}

// until is a last tick, soon or never.
func (p *player) until() int {
	return []int{ever, ever, min(p.now+p.r.Intn(60), ever), p.r.Intn(p.now + 1)}[p.r.Intn(4)]
}

// request is a request that is done.
func (p *player) request() api.Request {
	if p.r.Intn(4) == 0 {
		r := p.ofRuler()
		user := 0
		if p.r.Intn(20) == 0 {
			user = p.someone()
		}
		return as(user, p.held(user), r)
	}
	user := p.asker()
	return as(user, p.held(user), p.ofMember(user))
}

// ofRuler is a request of those that only the member 0 may make.
func (p *player) ofRuler() api.Request {
	switch p.r.Intn(16) {
	case 0, 1, 2:
		return enrol(p.someone(), p.r.Intn(3), p.r.Intn(6), []int{0, 20, 1000, 1000, 65535}[p.r.Intn(5)])
	case 3:
		return dismiss(p.someone())
	case 4, 5:
		return policy(texts()[p.r.Intn(len(texts()))])
	case 6, 7, 8, 9, 10, 11, 12:
		return mint(p.enrolled(), p.rights(), p.until())
	case 13:
		return drain([]int{0, 1, 2, 9, 64}[p.r.Intn(5)])
	}
	return quota(p.enrolled(), []int{0, 5, 1000, 65535}[p.r.Intn(4)])
}

// ofMember is a request of any of the others.
func (p *player) ofMember(user int) api.Request {
	m := []int{0, 1, 3, 9, 64}[p.r.Intn(5)]
	switch p.r.Intn(20) {
	case 0, 1:
		return attenuate(p.rights(), []int{16, 16, 12, p.r.Intn(17)}[p.r.Intn(4)], p.box(), p.until())
	case 2:
		return revoke(p.held(user))
	case 3, 4:
		return profile([]int{0, 1, 2, 2, 3, 4, 5}[p.r.Intn(7)], []uint64{0, 0, 1, 2, 9, 64, 1 << 32, 1<<32 + 1}[p.r.Intn(8)])
	case 5, 6, 7, 8:
		at := p.spot()
		return report(at.X, at.Y, p.r.Intn(4))
	case 9:
		return op(api.OpRemove)
	case 10, 11, 12:
		return op(api.OpPublish)
	case 13:
		return op(api.OpWithdraw)
	case 14:
		return op(api.OpWhere)
	case 15:
		return window(p.box(), m)
	case 16:
		return near(p.spot(), m)
	case 17:
		return cloaks(p.box(), m)
	case 18:
		return nearCloaks(p.spot(), m)
	}
	return trail([]int{0, 0, 1, 5, 65535}[p.r.Intn(5)], m)
}

// turn is a request, a draw and a tick, which mostly is a little later than that ahead of it.
func (p *player) turn() (api.Request, uint64, int) {
	r := p.request()
	switch p.r.Intn(60) {
	case 0:
		r.M += 65
	case 1:
		return r, p.draw(), []int{-1, ever + 1}[p.r.Intn(2)]
	case 2:
		return r, p.draw(), []int{0, p.now / 2}[p.r.Intn(2)]
	}
	p.now += p.r.Intn(4)
	return r, p.draw(), p.now
}

// crowd is a tenant with some members who may ask, and hide among two.
func crowd(t *testing.T) *pair {
	t.Helper()
	p := cast(t)
	p.want(api.StOK, as(1, 11, profile(2, 0)), 0, 0)
	p.want(api.StOK, as(2, 22, profile(3, 0)), 0, 0)
	for user := 3; user <= 5; user++ {
		p.want(api.StOK, by9(enrol(user, user-3, user-3, 1000)), 0, 0)
		p.want(api.StOK, by9(mint(user, 31, ever)), 30, 0)
		p.want(api.StOK, as(user, 30, profile(2, 4)), 0, 0)
	}
	return p
}

// play plays so many turns with a tenant, each of which is told with the model as it was, and the answer.
func play(t *testing.T, seed int64, turns int, tell func(p *player, was *model, r api.Request, draw uint64, now int, a api.Answer)) {
	t.Helper()
	p := &player{pair: crowd(t), r: rand.New(rand.NewSource(seed))}
	for range turns {
		if p.unruled() {
			p.pair, p.now = crowd(t), 0
		}
		r, draw, now := p.turn()
		was := p.m.copied()
		tell(p, was, r, draw, now, p.ask(r, draw, now))
	}
}

// unruled tells whether no one rules any more, or the trail has grown long.
func (p *player) unruled() bool {
	may := func(k api.Ticket) bool { return k.Grant.Ops&api.MayRule != 0 && k.Grant.Until > p.now }
	return !slices.ContainsFunc(p.m.Tickets[0], may) || len(p.m.Events) > 1000
}

// P22.1 and P22.2: all that is answered is as the document words it, and so is all that is told.
func TestTurns(t *testing.T) {
	type what struct{ op, status int }
	n := map[what]int{}
	seen := 0
	for seed := range int64(8) {
		play(t, seed, 4000, func(p *player, was *model, r api.Request, draw uint64, now int, a api.Answer) {
			n[what{r.Op, a.Status}]++
			seen += len(a.Seen)
			p.wantTold()
		})
	}
	also := map[int][]int{
		api.OpEnrol: {api.StArg, api.StClash}, api.OpDismiss: {api.StArg, api.StNone}, api.OpPolicy: {api.StPolicy},
		api.OpMint: {api.StNone, api.StArg, api.StClash, api.StFull}, api.OpAttenuate: {api.StArg, api.StClash, api.StFull}, api.OpRevoke: {api.StNone},
		api.OpProfile: {api.StArg}, api.OpRemove: {api.StNone}, api.OpPublish: {api.StNone, api.StArg, api.StUnavailable}, api.OpWithdraw: {api.StNone},
		api.OpWhere: {api.StNone}, api.OpQuota: {api.StArg, api.StNone},
	}
	for op := api.OpEnrol; op <= api.OpQuota; op++ {
		for _, status := range append(also[op], api.StOK, api.StBad, api.StUnknown, api.StDenied) {
			if op != api.OpAttenuate && op != api.OpRevoke || status != api.StDenied {
				if times := n[what{op, status}]; times < 4 {
					t.Error("too seldom:", op, status, times)
				}
			}
		}
	}
	if seen < 2000 {
		t.Error("too little is seen:", seen)
	}
}

// wantTold holds all that a tenant tells besides its state against the model.
func (p *player) wantTold() {
	p.t.Helper()
	if l := p.x.Points(); !slices.Equal(l, p.m.points()) {
		p.t.Fatalf("Points: %v, want %v", l, p.m.points())
	}
	role, tier := p.r.Intn(3), p.r.Intn(6)
	v := plan.Viewer{Role: role, Tier: tier, Grant: full()}
	if a, b := p.x.Sees(role, tier); !slices.Equal(a, p.m.sees(v, false)) || !slices.Equal(b, p.m.sees(v, true)) {
		p.t.Fatalf("Sees(%d, %d): %v, %v", role, tier, a, b)
	}
	if p.r.Intn(8) == 0 {
		at := p.r.Intn(len(p.m.Members))
		user, now := p.m.Members[at].User, p.now-p.r.Intn(3)
		left := slices.DeleteFunc(slices.Clone(p.m.Tickets[at]), func(k api.Ticket) bool { return p.m.over(at, k, now) })
		if l := p.x.Tickets(user, now); !slices.Equal(l, left) {
			p.t.Fatalf("Tickets(%d, %d): %v, want %v", user, now, l, left)
		}
		p.m.Tickets[at] = left
		p.agree()
	}
}

// over tells whether a ticket of the member at a place is over at a tick: if it is itself, or that of which it was made.
func (m *model) over(at int, k api.Ticket, now int) bool {
	if k.Grant.Until < now {
		return true
	}
	return slices.ContainsFunc(m.Tickets[at], func(from api.Ticket) bool {
		return from.Secret == k.Parent && m.over(at, from, now)
	})
}

// P22.3

func TestCloaksHide(t *testing.T) {
	told := 0
	for seed := range int64(6) {
		play(t, 100+seed, 3000, func(p *player, was *model, r api.Request, draw uint64, now int, a api.Answer) {
			if r.Op != api.OpPublish || a.Status != api.StOK {
				return
			}
			told++
			f := was.Members[was.at(r.User)].Profile
			at := was.Records[was.recordAt(r.User)].At
			if !geom.Has(a.Box, at) || was.within(a.Box) < f.K || geom.Area(a.Box) < f.Area || !isCells(a.Box) {
				t.Fatalf("the cloak of %v for %v is %v, with %d", at, f, a.Box, was.within(a.Box))
			}
			if s := p.x.Shapes()[p.m.shapeAt(r.User)]; s.Box != a.Box || s.ID != r.User {
				t.Fatalf("the cloak %v is kept as %v", a.Box, s)
			}
		})
	}
	if told < 100 {
		t.Error("too few cloaks:", told)
	}
}

// isCells tells whether a rectangle is a cell's box, or that of two children of one cell.
func isCells(r api.Rect) bool {
	w, h := r.X1-r.X0+1, r.Y1-r.Y0+1
	side := min(w, h)
	if side&(side-1) != 0 || r.X0%w != 0 || r.Y0%h != 0 {
		return false
	}
	return w == h || w == 2*h || h == 2*w
}

// P22.4

func TestEachRequestPutsAnEvent(t *testing.T) {
	for seed := range int64(4) {
		play(t, 200+seed, 3000, func(p *player, was *model, r api.Request, draw uint64, now int, a api.Answer) {
			n := p.x.Past() + len(p.x.Events()) - was.Past - len(was.Events)
			user := r.User
			switch a.Status {
			case api.StBad, api.StQuota:
				if n != 0 {
					t.Fatalf("%d events of %+v", n, a)
				}
				return
			case api.StUnknown:
				user = 65535
			}
			if n != 1 {
				t.Fatalf("%d events of %+v", n, a)
			}
			p.wantLast(api.Event{User: user, Op: r.Op, Status: a.Status, Tick: now})
		})
	}
}

// P22.5

func TestWhatIsRefusedChangesNothing(t *testing.T) {
	refused := map[int]int{}
	for seed := range int64(4) {
		play(t, 300+seed, 3000, func(p *player, was *model, r api.Request, draw uint64, now int, a api.Answer) {
			if a.Status == api.StOK || a.Status == api.StUnavailable {
				return
			}
			refused[a.Status]++
			is := p.x.Export()
			is.Events = was.Events // the trail may
			if at := was.at(r.User); at > 0 && a.Status != api.StBad && a.Status != api.StUnknown && a.Status != api.StQuota {
				was.Members[at].Quota--
			}
			for at, row := range was.Tickets {
				if user := was.Members[at].User; a.Status != api.StBad && (user == r.User || r.Op == api.OpMint && user == r.Whom) {
					gone := func(k api.Ticket) bool { return was.over(at, k, now) }
					row, is.Tickets[at] = slices.DeleteFunc(slices.Clone(row), gone), slices.DeleteFunc(is.Tickets[at], gone)
				}
				was.Tickets[at] = row
			}
			if !same(is, was.State) {
				t.Fatalf("%+v: %+v changes\n%+v to\n%+v", r, a, was.State, is)
			}
		})
	}
	for status := api.StBad; status <= api.StPolicy; status++ {
		if status != api.StOver && status != api.StLate && status != api.StUnavailable && refused[status] < 10 {
			t.Error("too seldom:", status, refused[status])
		}
	}
}

// P22.6

func TestWhatIsToldIsThere(t *testing.T) {
	told := 0
	for seed := range int64(6) {
		play(t, 400+seed, 3000, func(p *player, was *model, r api.Request, draw uint64, now int, a api.Answer) {
			if r.Op != api.OpWindow && r.Op != api.OpNear {
				return
			}
			for _, s := range a.Seen {
				told++
				at := was.recordAt(s.ID)
				me := was.Members[was.at(r.User)]
				if at < 0 {
					t.Fatalf("of %d there is no record: %v", s.ID, a.Seen)
				}
				x := was.Records[at]
				zoom := 0
				for _, patch := range p.x.Patches(me.Role, me.Tier, x.Label) {
					if geom.Has(patch.Box, x.At) {
						zoom = patch.Zoom
					}
				}
				side := 1 << (16 - s.Level)
				if s.Level < 1 || s.Level > zoom || s.Box != square(x.At, side) {
					t.Fatalf("of %v with the zoom %d there is seen %v", x, zoom, s)
				}
			}
		})
	}
	if told < 300 {
		t.Error("too little is told:", told)
	}
}

// W4

func TestNoOneSeesByAnElderPolicy(t *testing.T) {
	for seed := range int64(4) {
		play(t, 500+seed, 2000, func(p *player, was *model, r api.Request, draw uint64, now int, a api.Answer) {
			if r.Op != api.OpPolicy || a.Status != api.StOK {
				return
			}
			// A tenant that never had another policy tells the same.
			s := was.State
			s.Text = ""
			x, _ := tenant.Import(s)
			b := x.Do(r, draw, now)
			for role := range 3 {
				for tier := range 6 {
					r0, c0 := p.x.Sees(role, tier)
					r1, c1 := x.Sees(role, tier)
					if b.Status != api.StOK || !slices.Equal(r0, r1) || !slices.Equal(c0, c1) || p.x.Cloaks(role) != x.Cloaks(role) {
						t.Fatalf("%d, %d: %v, %v by an elder policy", role, tier, r0, c0)
					}
				}
			}
		})
	}
}

// P22.8

func TestATenantsStateIsATenantAgain(t *testing.T) {
	for seed := range int64(6) {
		var other *tenant.Tenant
		var of *pair
		play(t, 600+seed, 3000, func(p *player, was *model, r api.Request, draw uint64, now int, a api.Answer) {
			if other == nil || of != p.pair || p.r.Intn(50) == 0 {
				var e api.Errno
				if other, e = tenant.Import(was.State); e != api.OK {
					t.Fatalf("%+v may not be", was.State)
				}
				of = p.pair
			}
			if b := other.Do(r, draw, now); !sameAnswer(a, b) {
				t.Fatalf("%+v: %+v or %+v", r, a, b)
			}
			if s := other.Export(); !same(s, p.x.Export()) {
				t.Fatalf("the states are %+v\nand %+v", s, p.x.Export())
			}
		})
	}
}

// P1

func TestWildArguments(t *testing.T) {
	numbers := []int{0, 1, 2, 8, 19, 20, 64, 65535, 65536, 1 << 32, ever, -1, math.MinInt, math.MaxInt}
	r := rand.New(rand.NewSource(1))
	odd := func() int { return numbers[r.Intn(len(numbers))] }
	rect := func() api.Rect { return rc(odd(), odd(), odd(), odd()) }
	wild := func() api.Request {
		return api.Request{
			Op: r.Intn(21), Tenant: odd(), User: odd(), Secret: uint64(odd()), M: odd(), Whom: odd(), Role: odd(), Tier: odd(), Quota: odd(),
			Text: texts()[r.Intn(len(texts()))], Rights: odd(), Zoom: odd(), Box: rect(), Until: odd(), Other: uint64(odd()),
			Profile: api.Profile{K: odd(), Area: uint64(odd())}, At: pt(odd(), odd()), Label: odd(), From: odd(),
		}
	}
	var zero tenant.Tenant
	much, _ := tenant.Import(great())
	little, _ := tenant.New(1)
	for _, x := range []*tenant.Tenant{nil, &zero, little, much} {
		for range 3000 {
			x.Do(wild(), uint64(odd()), odd())
			x.Tickets(odd(), odd())
			x.Patches(odd(), odd(), odd())
			x.Cloaks(odd())
			x.Sees(odd(), odd())
			x.Export()
		}
	}
	for _, s := range badStates() {
		s.Members, s.Past = append(s.Members, api.Member{User: odd(), Role: odd()}), odd()
		tenant.Import(s)
	}
	tenant.Import(api.State{Members: make([]api.Member, 9), Tickets: make([][]api.Ticket, 9), Records: make([]api.Record, 9), Shapes: make([]api.Shape, 9), Events: make([]api.Event, 9)})
}
