package token_test

import (
	"math"
	"math/rand"
	"slices"
	"testing"

	"paravent/api"
	"paravent/token"
)

// wantErr tells an error that is not the one wanted.
func wantErr(t *testing.T, what string, got, want api.Errno) {
	t.Helper()
	if got != want {
		t.Fatalf("%s: error %d, want %d", what, got, want)
	}
}

// wantTickets holds all that a table tells at a tick against tickets that it is to have then.
func wantTickets(t *testing.T, k *token.Table, now int, want ...api.Ticket) {
	t.Helper()
	got := k.Tickets(now)
	if !slices.Equal(got, want) {
		t.Fatalf("at %d there are %+v, not %+v", now, got, want)
	}
	if n := k.Len(now); n != len(want) {
		t.Fatalf("at %d there are %d, not %d", now, n, len(want))
	}
	for _, one := range want {
		if g, ok := k.Live(one.Secret, now); !ok || g != model(want).grants(one) {
			t.Fatalf("at %d %d grants %+v, %v, not %+v", now, one.Secret, g, ok, model(want).grants(one))
		}
	}
}

// wantNone tells of a secret that has a ticket.
func wantNone(t *testing.T, k *token.Table, s uint64, now int) {
	t.Helper()
	if g, ok := k.Live(s, now); ok || g != (api.Grant{}) {
		t.Fatalf("at %d %d grants %+v, %v", now, s, g, ok)
	}
}

// fromAll is a table of tickets.
func fromAll(t *testing.T, l ...api.Ticket) *token.Table {
	t.Helper()
	k, e := token.From(l)
	wantErr(t, "From", e, api.OK)
	return k
}

// root and made are tickets without a parent, and with one.

func root(s uint64, g api.Grant) api.Ticket { return api.Ticket{Secret: s, Grant: g} }

func made(s, from uint64, g api.Grant) api.Ticket {
	return api.Ticket{Secret: s, Parent: from, Grant: g}
}

// eight are as many tickets as there may be: 1, of which 2 and 3 were made, of 2 4, and four others.
func eight() []api.Ticket {
	return []api.Ticket{
		root(1, whole()), made(2, 1, boxed(0, 0, 9, 9)), made(3, 1, upTo(20)), made(4, 2, upTo(30)),
		root(5, void()), root(math.MaxUint64, upTo(40)), root(1<<63, boxed(5, 5, 6, 6)), made(6, 5, whole()),
	}
}

func TestExample(t *testing.T) {
	k := token.New()
	wantErr(t, "Mint", k.Mint(5, whole(), 0), api.OK)
	g := upTo(9)
	g.Ops = 1
	wantErr(t, "Derive", k.Derive(5, 7, g, 0), api.OK)
	if x, ok := k.Live(7, 9); !ok || x != g {
		t.Error(x, ok)
	}
	wantNone(t, k, 7, 10)
	wantErr(t, "Derive", k.Derive(5, 7, g, 9), api.OK)
	wantErr(t, "Revoke", k.Revoke(5, 9), api.OK)
	wantTickets(t, k, never)
}

// P16.1

func TestNew(t *testing.T) {
	wantTickets(t, token.New(), 0)
	a, b := token.New(), token.New()
	wantErr(t, "Mint", a.Mint(5, whole(), 0), api.OK)
	wantTickets(t, b, 0)
	var zero token.Table
	wantTickets(t, &zero, 0)
	wantErr(t, "Revoke", zero.Revoke(5, 0), api.ErrNone)
	wantErr(t, "Mint", zero.Mint(5, whole(), 0), api.OK)
	wantTickets(t, &zero, 0, root(5, whole()))
}

func TestFrom(t *testing.T) {
	for n := range 9 {
		wantTickets(t, fromAll(t, eight()[:n]...), 0, eight()[:n]...)
	}
	wantTickets(t, fromAll(t), 0)
	wantTickets(t, fromAll(t, root(5, api.Grant{}), made(7, 5, whole())), 0, root(5, api.Grant{}), made(7, 5, whole()))
	// What is over does not count less: From has no tick.
	l := slices.Repeat([]api.Ticket{root(0, upTo(0))}, 9)
	for i := range l {
		l[i].Secret = uint64(i + 1)
	}
	wantTickets(t, fromAll(t, l[:8]...), 0, l[:8]...)
	if k, e := token.From(l); k != nil || e != api.ErrArg {
		t.Errorf("of nine tickets there is a table: %v, %d", k, e)
	}
}

func TestFromWhatMayNotBe(t *testing.T) {
	refused := func(l ...api.Ticket) {
		t.Helper()
		if k, e := token.From(l); k != nil || e != api.ErrArg {
			t.Errorf("From(%+v) = %v, %d", l, k, e)
		}
	}
	g := whole()
	refused(root(0, g))
	refused(root(5, g), root(0, g))
	refused(root(0, g), root(5, g))
	refused(root(5, g), root(5, g))
	refused(root(5, g), root(6, g), root(5, g))
	refused(root(5, g), made(5, 5, g))
	refused(made(5, 5, g))
	refused(made(5, 7, g))
	refused(made(7, 5, g), root(5, g))
	refused(root(5, g), made(7, 6, g))
	refused(root(5, g), made(7, 8, g), made(8, 5, g))
	refused(append(eight(), root(9, g))...)
	refused(append(eight(), made(9, 1, g))...)
	refused(make([]api.Ticket, 9)...)
	refused(make([]api.Ticket, 100000)...)
	for _, bad := range badGrants() {
		refused(root(5, bad))
		refused(root(5, g), made(7, 5, bad))
		refused(root(5, bad), made(7, 5, g))
		refused(append(eight()[:7], root(9, bad))...)
	}
}

func TestFromSomeTickets(t *testing.T) {
	r := rand.New(rand.NewSource(2))
	good, bad := 0, 0
	for range 20000 {
		l := someTickets(r)
		m, want := from(l)
		k, e := token.From(l)
		if e != want || (k == nil) != (e != api.OK) {
			t.Fatalf("From(%+v) = %v, %d, want %d", l, k, e, want)
		}
		if e != api.OK {
			bad++
			continue
		}
		good++
		wantTickets(t, k, never, m...)
	}
	if good < 5000 || bad < 5000 {
		t.Error("too plain:", good, bad)
	}
}

func TestNothingIsShared(t *testing.T) {
	l := eight()
	k := fromAll(t, l...)
	for i := range l {
		l[i] = root(99, void())
	}
	wantTickets(t, k, 0, eight()...)
	got := k.Tickets(0)
	for i := range got {
		got[i] = root(98, void())
	}
	wantTickets(t, k, 0, eight()...)
	// What was answered does not change by what is done later, nor do two answers share anything.
	got, again := k.Tickets(0), k.Tickets(0)
	again[0].Secret = 77
	wantErr(t, "Revoke", k.Revoke(1, 0), api.OK)
	wantErr(t, "Mint", k.Mint(8, whole(), 0), api.OK)
	if !slices.Equal(got, eight()) {
		t.Error("what was told has become", got)
	}
	// Room behind what is answered is not the table's.
	got = k.Tickets(0)
	_ = append(got, root(97, void()))
	wantErr(t, "Mint", k.Mint(10, whole(), 0), api.OK)
	_ = append(got, root(97, void()))
	if l := k.Tickets(0); l[len(l)-1] != root(10, whole()) {
		t.Error("the last one has become", l[len(l)-1])
	}
	// Nor does the list that is handed in change.
	in := eight()
	k = fromAll(t, in...)
	wantErr(t, "Revoke", k.Revoke(1, 0), api.OK)
	if !slices.Equal(in, eight()) {
		t.Error("what was handed in has become", in)
	}
}

// P16.2

func TestMint(t *testing.T) {
	k := token.New()
	var want []api.Ticket
	for i, g := range []api.Grant{whole(), {}, void(), upTo(9), boxed(3, 3, 4, 4), {Ops: 5, Zoom: 3, Box: rc(1, 1, 2, 2), Until: 7}, {Void: true}, whole()} {
		s := uint64(1) << (9 * i % 64)
		if i == 7 {
			s = math.MaxUint64
		}
		wantErr(t, "Mint", k.Mint(s, g, -1), api.OK)
		want = append(want, root(s, g))
		wantTickets(t, k, 0, want...)
	}
	wantErr(t, "Mint", k.Mint(77, whole(), 0), api.ErrFull)
	wantTickets(t, k, 0, want...)
	wantTickets(t, k, 8, want[0], want[2], want[3], want[4], want[7])
}

func TestMintErrors(t *testing.T) {
	k := fromAll(t, eight()...)
	bad := badGrants()
	for _, g := range bad {
		// Each is told ahead of those behind it: ErrArg, ErrDraw or ErrTwice, ErrFull.
		for _, draw := range []uint64{0, 1, 6, 77} {
			wantErr(t, "Mint", k.Mint(draw, g, 0), api.ErrArg)
			wantErr(t, "Mint", token.New().Mint(draw, g, 0), api.ErrArg)
		}
	}
	for _, one := range eight() {
		wantErr(t, "Mint", k.Mint(one.Secret, whole(), 0), api.ErrTwice)
	}
	wantErr(t, "Mint", k.Mint(0, whole(), 0), api.ErrDraw)
	wantErr(t, "Mint", k.Mint(77, whole(), 0), api.ErrFull)
	wantTickets(t, k, 0, eight()...)
	few := fromAll(t, eight()[:3]...)
	wantErr(t, "Mint", few.Mint(0, whole(), 0), api.ErrDraw)
	wantErr(t, "Mint", few.Mint(3, whole(), 0), api.ErrTwice)
	wantTickets(t, few, 0, eight()[:3]...)
}

func TestDerive(t *testing.T) {
	k := token.New()
	wantErr(t, "Mint", k.Mint(5, boxed(0, 0, 9, 9), 0), api.OK)
	// Its own grant stands as it was handed in, also where it is not narrower than its parent's.
	wantErr(t, "Derive", k.Derive(5, 7, whole(), 0), api.OK)
	wantErr(t, "Derive", k.Derive(7, 8, boxed(5, 5, 20, 20), 0), api.OK)
	wantErr(t, "Derive", k.Derive(5, 9, boxed(10, 10, 20, 20), 0), api.OK)
	wantErr(t, "Derive", k.Derive(9, 10, boxed(0, 0, 20, 20), 0), api.OK)
	wantTickets(t, k, 0, root(5, boxed(0, 0, 9, 9)), made(7, 5, whole()), made(8, 7, boxed(5, 5, 20, 20)), made(9, 5, boxed(10, 10, 20, 20)), made(10, 9, boxed(0, 0, 20, 20)))
	for s, want := range map[uint64]api.Grant{5: boxed(0, 0, 9, 9), 7: boxed(0, 0, 9, 9), 8: boxed(5, 5, 9, 9), 9: void(), 10: void()} {
		if g, ok := k.Live(s, 0); !ok || g != want {
			t.Errorf("%d grants %+v, %v, not %+v", s, g, ok, want)
		}
	}
}

func TestDeriveErrors(t *testing.T) {
	k := fromAll(t, eight()...)
	for _, g := range append(badGrants(), whole()) {
		for _, draw := range []uint64{0, 1, 77} {
			for _, from := range []uint64{0, 7, 77, 1 << 8, math.MaxUint64 - 1} {
				wantErr(t, "Derive", k.Derive(from, draw, g, 0), api.ErrNone)
				wantErr(t, "Derive", token.New().Derive(from, draw, g, 0), api.ErrNone)
			}
		}
	}
	for _, g := range badGrants() {
		for _, draw := range []uint64{0, 1, 77} {
			wantErr(t, "Derive", k.Derive(4, draw, g, 0), api.ErrArg)
		}
	}
	for _, one := range eight() {
		wantErr(t, "Derive", k.Derive(one.Secret, 0, whole(), 0), api.ErrDraw)
		wantErr(t, "Derive", k.Derive(1, one.Secret, whole(), 0), api.ErrTwice)
		wantErr(t, "Derive", k.Derive(one.Secret, one.Secret, whole(), 0), api.ErrTwice)
		wantErr(t, "Derive", k.Derive(one.Secret, 77, whole(), 0), api.ErrFull)
	}
	wantTickets(t, k, 0, eight()...)
}

// Each call with a tick lets those go that are over, ahead of all else, whatever it answers.

func TestEachCallLetsGoWhatIsOver(t *testing.T) {
	left := model(eight()).at(31)
	if len(left) != 6 {
		t.Fatal(len(left))
	}
	for i, call := range []func(*token.Table) bool{
		func(k *token.Table) bool { return k.Mint(77, api.Grant{Ops: -1}, 31) == api.ErrArg },
		func(k *token.Table) bool { return k.Mint(0, whole(), 31) == api.ErrDraw },
		func(k *token.Table) bool { return k.Mint(1, whole(), 31) == api.ErrTwice },
		func(k *token.Table) bool { return k.Derive(77, 1, whole(), 31) == api.ErrNone },
		func(k *token.Table) bool { return k.Derive(3, 77, whole(), 31) == api.ErrNone },
		func(k *token.Table) bool { return k.Derive(1, 77, api.Grant{Ops: 32}, 31) == api.ErrArg },
		func(k *token.Table) bool { return k.Derive(1, 0, whole(), 31) == api.ErrDraw },
		func(k *token.Table) bool { return k.Derive(1, 2, whole(), 31) == api.ErrTwice },
		func(k *token.Table) bool { _, ok := k.Live(1, 31); return ok },
		func(k *token.Table) bool { _, ok := k.Live(4, 31); return !ok },
		func(k *token.Table) bool { _, ok := k.Live(0, 31); return !ok },
		func(k *token.Table) bool { return k.Revoke(3, 31) == api.ErrNone },
		func(k *token.Table) bool { return k.Revoke(0, 31) == api.ErrNone },
		func(k *token.Table) bool { return len(k.Tickets(31)) == 6 },
		func(k *token.Table) bool { return k.Len(31) == 6 },
	} {
		k := fromAll(t, eight()...)
		if !call(k) {
			t.Fatal("the call", i, "answers otherwise")
		}
		wantTickets(t, k, never, left...) // none comes back at an earlier tick
	}
	// There is room again, and a secret of one that went may be another one's.
	k := fromAll(t, eight()...)
	wantErr(t, "Mint", k.Mint(3, boxed(1, 1, 2, 2), 20), api.ErrTwice)
	wantErr(t, "Mint", k.Mint(3, boxed(1, 1, 2, 2), 21), api.OK)
	wantErr(t, "Derive", k.Derive(3, 4, whole(), 30), api.ErrTwice)
	wantErr(t, "Derive", k.Derive(3, 4, whole(), 31), api.OK)
	wantErr(t, "Mint", k.Mint(8, whole(), 31), api.ErrFull)
	wantTickets(t, k, 31, append(slices.Clone(left), root(3, boxed(1, 1, 2, 2)), made(4, 3, whole()))...)
	wantErr(t, "Revoke", k.Revoke(1, 31), api.OK) // of which an elder 3, and of 2 an elder 4, were made
	wantTickets(t, k, 31, append(slices.Clone(left[2:]), root(3, boxed(1, 1, 2, 2)), made(4, 3, whole()))...)
}

func TestWhatIsOverWhenItIsMade(t *testing.T) {
	k := fromAll(t, root(1, whole()))
	// It is made, and goes with the next call at such a tick.
	wantErr(t, "Mint", k.Mint(5, upTo(9), 10), api.OK)
	wantErr(t, "Derive", k.Derive(1, 6, upTo(9), 9), api.OK)
	wantTickets(t, k, 9, root(1, whole()), root(5, upTo(9)), made(6, 1, upTo(9)))
	wantErr(t, "Derive", k.Derive(5, 7, whole(), 10), api.ErrNone)
	wantTickets(t, k, never, root(1, whole()))
}

// P16.3

func TestRevoke(t *testing.T) {
	for _, c := range []struct {
		s    uint64
		left []int // places of the eight
	}{
		{1, []int{4, 5, 6, 7}},
		{2, []int{0, 2, 4, 5, 6, 7}},
		{3, []int{0, 1, 3, 4, 5, 6, 7}},
		{4, []int{0, 1, 2, 4, 5, 6, 7}},
		{5, []int{0, 1, 2, 3, 5, 6}},
		{math.MaxUint64, []int{0, 1, 2, 3, 4, 6, 7}},
		{1 << 63, []int{0, 1, 2, 3, 4, 5, 7}},
		{6, []int{0, 1, 2, 3, 4, 5, 6}},
	} {
		k := fromAll(t, eight()...)
		wantErr(t, "Revoke", k.Revoke(c.s, 0), api.OK)
		var left []api.Ticket
		for _, at := range c.left {
			left = append(left, eight()[at])
		}
		wantTickets(t, k, 0, left...)
		wantErr(t, "Revoke", k.Revoke(c.s, 0), api.ErrNone)
		wantTickets(t, k, 0, left...)
	}
	k := fromAll(t, eight()...)
	for _, s := range []uint64{0, 7, 256, 1 << 56, math.MaxUint64 - 1} {
		wantErr(t, "Revoke", k.Revoke(s, 0), api.ErrNone)
		wantErr(t, "Revoke", token.New().Revoke(s, 0), api.ErrNone)
	}
	wantErr(t, "Revoke", k.Revoke(4, 31), api.ErrNone)
	wantErr(t, "Revoke", k.Revoke(math.MaxUint64, 40), api.OK)
	wantTickets(t, k, 31, eight()[0], eight()[1], eight()[4], eight()[6], eight()[7])
}

func TestRevokeOfALongLine(t *testing.T) {
	for from := range 8 {
		k := token.New()
		wantErr(t, "Mint", k.Mint(1, whole(), 0), api.OK)
		for s := uint64(1); s < 8; s++ {
			wantErr(t, "Derive", k.Derive(s, s+1, upTo(int(100-s)), 0), api.OK)
		}
		want := k.Tickets(0)
		wantErr(t, "Revoke", k.Revoke(uint64(from+1), 0), api.OK)
		wantTickets(t, k, 0, want[:from]...)
	}
}

func TestLive(t *testing.T) {
	k := fromAll(t, eight()...)
	for s, want := range map[uint64]api.Grant{
		1: whole(), 2: boxed(0, 0, 9, 9), 3: upTo(20), 4: {Ops: 31, Zoom: 16, Box: rc(0, 0, 9, 9), Until: 30},
		5: void(), 6: void(), math.MaxUint64: upTo(40), 1 << 63: boxed(5, 5, 6, 6),
	} {
		if g, ok := k.Live(s, 20); !ok || g != want {
			t.Errorf("%d grants %+v, %v, not %+v", s, g, ok, want)
		}
	}
	for _, s := range []uint64{0, 7, 256, 1 << 56, math.MaxUint64 - 1} {
		wantNone(t, k, s, 20)
		wantNone(t, token.New(), s, 20)
	}
}

func TestNilTable(t *testing.T) {
	var k *token.Table
	for _, now := range []int{0, -1, 9, never, math.MaxInt} {
		for _, g := range append(badGrants(), whole()) {
			for _, s := range []uint64{0, 1, math.MaxUint64} {
				wantErr(t, "Mint", k.Mint(s, g, now), api.ErrNil)
				wantErr(t, "Derive", k.Derive(s, s, g, now), api.ErrNil)
			}
		}
		wantErr(t, "Revoke", k.Revoke(0, now), api.ErrNil)
		wantErr(t, "Revoke", k.Revoke(5, now), api.ErrNil)
		wantNone(t, k, 0, now)
		wantNone(t, k, 5, now)
		wantTickets(t, k, now)
	}
}

// P16.5 to P16.7, and all of P16.2 and P16.3, by random turns.

// event is what happened in a turn: the call, and its error, or how many went.
type event struct {
	call string
	n    int
}

// counts are how often what happened.
type counts map[event]int

// turn does something to a table and to its model, and wants the same of both.
func turn(t *testing.T, r *rand.Rand, k *token.Table, m model, now int, n counts) model {
	t.Helper()
	m = m.at(now)
	s, draw, g := someSecret(r), someSecret(r), someGrant(r)
	if len(m) > 0 && r.Intn(2) == 0 {
		s = m[r.Intn(len(m))].Secret
	}
	if r.Intn(12) == 0 {
		g = badGrants()[r.Intn(len(badGrants()))]
	}
	_, there := m.of(s)
	switch r.Intn(9) {
	case 0, 1, 2:
		next, want := m.with(root(draw, g))
		wantErr(t, "Mint", k.Mint(draw, g, now), want)
		n[event{"Mint", int(want)}]++
		return next
	case 3, 4, 5, 6:
		next, want := m.with(made(draw, s, g))
		if !there {
			next, want = m, api.ErrNone
		}
		wantErr(t, "Derive", k.Derive(s, draw, g, now), want)
		n[event{"Derive", int(want)}]++
		return next
	case 7:
		if !there {
			wantErr(t, "Revoke", k.Revoke(s, now), api.ErrNone)
			return m
		}
		wantErr(t, "Revoke", k.Revoke(s, now), api.OK)
		left := m.without(s)
		n[event{"Revoke", len(m) - len(left)}]++
		return left
	}
	if !there {
		wantNone(t, k, s, now)
	}
	wantTickets(t, k, now, m...)
	return m
}

// checkNarrower wants what a ticket grants to be narrower than its own grant, than what its parent grants, and not to end ahead of the tick.
func checkNarrower(t *testing.T, k *token.Table, now int) {
	t.Helper()
	for _, one := range k.Tickets(now) {
		g, ok := k.Live(one.Secret, now)
		if !ok || !token.Narrower(g, one.Grant) || g.Until < now || one.Grant.Until < now {
			t.Fatalf("%+v grants %+v, %v", one, g, ok)
		}
		if one.Parent == 0 {
			continue
		}
		if elder, ok := k.Live(one.Parent, now); !ok || !token.Narrower(g, elder) {
			t.Fatalf("%+v grants %+v, its parent %+v, %v", one, g, elder, ok)
		}
	}
}

func TestTurns(t *testing.T) {
	r := rand.New(rand.NewSource(3))
	n := counts{}
	for range 1500 {
		k, m, now := token.New(), model(nil), 0
		if l, e := from(someTickets(r)); e == api.OK && r.Intn(2) == 0 {
			k, m = fromAll(t, l...), l
		}
		for range 60 {
			switch r.Intn(8) {
			case 0, 1:
				now += r.Intn(5)
			case 2:
				now -= r.Intn(5)
			}
			at := now
			switch r.Intn(150) {
			case 0:
				at = api.MaxTick
			case 1:
				at = never
			case 2:
				at = math.MaxInt
			}
			n[event{"over", len(m) - len(m.at(at))}]++
			m = turn(t, r, k, m, at, n)
			// At a tick at which none goes, all are told that are there.
			wantTickets(t, k, never, m...)
			for range 3 {
				if s := someSecret(r); !slices.ContainsFunc(m, func(one api.Ticket) bool { return one.Secret == s }) {
					wantNone(t, k, s, never)
				}
			}
			m = m.at(at)
			checkNarrower(t, k, at)
			n[event{"line", longest(m)}]++
		}
	}
	// Of Mint and Derive the errors' numbers, of the others how many went, or how many a line has.
	for call, all := range map[string][]int{
		"Mint": {0, 1, 40, 20, 22}, "Derive": {0, 21, 1, 40, 20, 22},
		"Revoke": {1, 2, 3, 4}, "over": {1, 2, 3, 4}, "line": {1, 2, 3, 4, 5},
	} {
		for _, what := range all {
			if times := n[event{call, what}]; times < 50 {
				t.Error("too seldom:", call, what, times)
			}
		}
	}
}

// longest is how many tickets the longest line has.
func longest(m model) int {
	n := 0
	for _, k := range m {
		n = max(n, len(m.line(k)))
	}
	return n
}

// P16.6

func TestWhatIsRevokedStaysAway(t *testing.T) {
	r := rand.New(rand.NewSource(4))
	for range 2000 {
		l, e := from(someTickets(r))
		if e != api.OK || len(l) == 0 {
			continue
		}
		k := fromAll(t, l...)
		s := l[r.Intn(len(l))].Secret
		left := l.without(s)
		wantErr(t, "Revoke", k.Revoke(s, 0), api.OK)
		wantTickets(t, k, 0, left...)
		for _, one := range l {
			if _, ok := left.of(one.Secret); ok {
				continue
			}
			// Neither later nor earlier, and nothing is made of it any more.
			wantNone(t, k, one.Secret, 0)
			wantNone(t, k, one.Secret, never)
			wantErr(t, "Derive", k.Derive(one.Secret, 1000, whole(), 0), api.ErrNone)
		}
		// Made anew it has the new grant alone, and none that was made of the elder one.
		wantErr(t, "Mint", k.Mint(s, boxed(1, 1, 2, 2), 0), api.OK)
		wantTickets(t, k, 0, append(slices.Clone(left), root(s, boxed(1, 1, 2, 2)))...)
	}
}

// P16.7

func TestUntil(t *testing.T) {
	for _, until := range []int{0, 1, 9, api.MaxTick - 1, api.MaxTick} {
		for _, later := range []int{until, min(until+1, api.MaxTick), api.MaxTick} {
			tickets := []api.Ticket{root(1, upTo(later)), made(2, 1, upTo(until)), made(3, 2, upTo(later)), made(4, 3, upTo(later)), made(5, 1, upTo(later))}
			k := fromAll(t, tickets...)
			for _, now := range []int{never, -1, 0, until - 1, until} {
				wantTickets(t, k, now, tickets...)
			}
			var left []api.Ticket
			if later > until {
				left = []api.Ticket{tickets[0], tickets[4]}
			}
			wantTickets(t, k, until+1, left...)
			wantTickets(t, k, until, left...)
			wantTickets(t, k, later, left...)
			wantTickets(t, k, later+1)
		}
	}
	for _, now := range []int{api.MaxTick + 1, math.MaxInt} {
		wantTickets(t, fromAll(t, eight()...), now)
	}
}

// P1

func TestWildArguments(t *testing.T) {
	ticks := []int{0, -1, 9, 31, api.MaxTick, api.MaxTick + 1, never, math.MaxInt}
	secrets := []uint64{0, 1, 4, 77, 1 << 63, math.MaxUint64}
	grants := append(badGrants(), whole(), api.Grant{})
	for _, now := range ticks {
		for _, g := range grants {
			for _, s := range secrets {
				for _, k := range []*token.Table{nil, {}, token.New(), fromAll(t, eight()...), fromAll(t, eight()[:4]...)} {
					k.Mint(s, g, now)
					k.Derive(s, s+1, g, now)
					k.Derive(1, s, g, now)
					k.Live(s, now)
					k.Tickets(now)
					k.Revoke(s, now)
					k.Len(now)
				}
			}
		}
	}
}
