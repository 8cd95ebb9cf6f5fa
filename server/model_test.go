package server_test

import (
	"bytes"
	"math/rand"
	"slices"
	"testing"

	"paravent/api"
	"paravent/reply"
	"paravent/server"
	"paravent/tenant"
	"paravent/view"
	"paravent/wire"
)

// A model is a server in the document's words. What layers below promise, it asks of them.
type model struct {
	tenants []*tenant.Tenant
	conns   [8]struct {
		waits, out []byte
		over       int
	}
	strays []api.Event
	now    int
}

func modelOf(secrets []uint64) *model {
	m := &model{}
	for _, secret := range secrets {
		x, _ := tenant.New(secret)
		m.tenants = append(m.tenants, x)
	}
	return m
}

// feed lets bytes come in, as the words of frame say (5).
func (m *model) feed(conn int, l []byte) bool {
	c := &m.conns[conn]
	dropped := min(c.over, len(l))
	if len(c.waits)+len(l)-dropped > 4096 {
		return false
	}
	c.over -= dropped
	c.waits = append(c.waits, l[dropped:]...)
	return true
}

// pick picks a connection, as the words of server say.
func (m *model) pick(conn int, draw uint64) ([]byte, bool) {
	c := &m.conns[conn]
	if len(c.waits) < 2 {
		return nil, false
	}
	n := 256*int(c.waits[0]) + int(c.waits[1])
	var b []byte
	switch {
	case n > 600:
		here := min(n, len(c.waits)-2)
		c.waits, c.over = c.waits[2+here:], n-here
		b = []byte{2, 0, 0}
		m.strays = append(m.strays, stray(0, 2, m.now))
	case len(c.waits) < 2+n:
		return nil, false
	default:
		b = m.answer(c.waits[2:2+n], draw)
		c.waits = c.waits[2+n:]
	}
	c.out = append(c.out, b...)
	return b, true
}

// answer is what a body is answered.
func (m *model) answer(l []byte, draw uint64) []byte {
	r, e := wire.Decode(l)
	var a api.Answer
	switch {
	case e != api.OK:
		m.strays = append(m.strays, stray(0, 1, m.now))
		return []byte{1, 0, 0}
	case m.now == ever:
		a.Status = 5
		m.strays = append(m.strays, stray(r.Op, 5, m.now))
	case r.Tenant >= len(m.tenants):
		a.Status = 3
		m.strays = append(m.strays, stray(r.Op, 3, m.now))
	default:
		a = m.tenants[r.Tenant].Do(r, draw, m.now)
	}
	b, e := reply.Encode(r.Op, r.M, a)
	if e != api.OK {
		panic("what is answered does not fit what is asked")
	}
	return b
}

// A player plays random turns on a server and its model, which is asked for who may do what.
type player struct {
	*rand.Rand
	m *model
}

// texts are policies by which some see and some may cloak, and one that is none.
func texts() []string {
	return []string{
		"allow role any tier any label any in all zoom 14; cloak role any;",
		"region w = 0 0 15 15; role nurse = 1; allow role nurse tier any label any in w zoom 16; allow role any tier any label 1 in all zoom 12; cloak role 1;",
		"role = 3;", "",
	}
}

// oneOf is one of some.
func oneOf[T any](p player, l ...T) T { return l[p.Intn(len(l))] }

// draw is a draw, close to many others.
func (p player) draw() uint64 { return uint64(p.Intn(60)) }

// who is a tenant, mostly one that is there, a user of it, and a secret, mostly one that the user has.
func (p player) who() (int, int, uint64) {
	n := p.Intn(len(p.m.tenants))
	if p.Intn(20) == 0 {
		return oneOf(p, len(p.m.tenants), 8, 255), p.Intn(4), p.draw()
	}
	l := p.m.tenants[n].Members()
	for range 5 {
		user := l[p.Intn(len(l))].User
		if k := p.m.tenants[n].Tickets(user, p.m.now); len(k) > 0 {
			return n, user, k[p.Intn(len(k))*p.Intn(2)].Secret
		}
	}
	return n, p.Intn(7), p.draw()
}

// until is a last tick, mostly one that is to come.
func (p player) until() int { return min(p.m.now+oneOf(p, 0, 5, 30, ever, ever), ever) }

func (p player) spot() api.Point { return pt(p.Intn(20), p.Intn(20)) }

func (p player) box() api.Rect {
	at := p.spot()
	return oneOf(p, grid(), rc(at.X, at.Y, at.X+p.Intn(20), at.Y+p.Intn(20)))
}

// request is a request that may be.
func (p player) request() api.Request {
	r := p.fields(oneOf(p, 1, 1, 1, 3, 4, 4, 4, 4, 7, 8, 8, 8, 10, 10, 11, 1+p.Intn(19), 1+p.Intn(19), 1+p.Intn(19), 1+p.Intn(19)))
	r.M = oneOf(p, 0, 1, 3, 64)
	n, user, secret := p.who()
	if r.Op < 5 && p.Intn(4) > 0 { // what only the member 0 may do it mostly does
		user = 0
		if n < len(p.m.tenants) {
			secret = p.m.tenants[n].Tickets(0, 0)[0].Secret
		}
	}
	if r.Op == api.OpRevoke && user > 0 && p.Intn(2) == 0 { // the member 0 keeps the secret that all begins with
		r.Other = secret
	}
	return by(n, user, secret, r)
}

// fields is a request of an operation with its fields alone.
func (p player) fields(n int) api.Request {
	whom := 1 + p.Intn(4)
	switch n {
	case api.OpEnrol:
		return enrol(whom, p.Intn(3), p.Intn(3), oneOf(p, 2, 99, 999, 999))
	case api.OpDismiss:
		return api.Request{Op: n, Whom: whom}
	case api.OpPolicy:
		return policy(oneOf(p, texts()...))
	case api.OpMint:
		return mint(oneOf(p, 0, 1, 1, whom, whom), oneOf(p, 31, 31, 31, p.Intn(32)), p.until())
	case api.OpAttenuate:
		return api.Request{Op: n, Rights: p.Intn(32), Zoom: p.Intn(17), Box: p.box(), Until: p.until()}
	case api.OpRevoke:
		return api.Request{Op: n, Other: p.draw()}
	case api.OpProfile:
		return api.Request{Op: n, Profile: api.Profile{K: oneOf(p, 0, 1, 2, 9, 9), Area: uint64(p.Intn(9))}}
	case api.OpReport:
		at := p.spot()
		return report(at.X, at.Y, p.Intn(3))
	case api.OpWindow, api.OpCloaks:
		return api.Request{Op: n, Box: p.box()}
	case api.OpNear, api.OpNearCloaks:
		return api.Request{Op: n, At: p.spot()}
	case api.OpTrail:
		return api.Request{Op: n, From: p.Intn(4)}
	case api.OpQuota:
		return api.Request{Op: n, Whom: whom, Quota: oneOf(p, 0, 9, 999)}
	}
	return op(n)
}

// frame is a frame: mostly of a request, now and then of what is none, or one that is too long.
func (p player) frame() []byte {
	switch p.Intn(16) {
	case 0:
		return long(oneOf(p, 601, 602, 700, 1200))
	case 1:
		l := body(p.request())
		l[p.Intn(len(l))] = byte(p.Intn(256))
		return framed(l)
	case 2:
		return framed(oneOf(p, noRequests()...))
	}
	return asked(p.request())
}

// same holds a server against the model: all that it tells.
func (p player) same(t *testing.T, s *server.Server) {
	t.Helper()
	if s.Now() != p.m.now || s.Tenants() != len(p.m.tenants) || !slices.Equal(s.Strays(), p.m.strays) {
		t.Fatalf("%d %d %+v, want %d %d %+v", s.Now(), s.Tenants(), s.Strays(), p.m.now, len(p.m.tenants), p.m.strays)
	}
	for conn, c := range p.m.conns {
		if !bytes.Equal(s.Out(conn), c.out) || s.Waiting(conn) != len(c.waits) {
			t.Fatalf("%d: %v, %d wait, want %v, %d", conn, s.Out(conn), s.Waiting(conn), c.out, len(c.waits))
		}
	}
	for i, x := range p.m.tenants {
		l, past := s.Trail(i)
		if !slices.Equal(l, x.Events()) || past != x.Past() {
			t.Fatalf("%d: %+v, %d drained, want %+v, %d", i, l, past, x.Events(), x.Past())
		}
		for _, user := range []int{0, 1 + p.Intn(6)} {
			if v, w := s.View(i, user), view.Of(x, user, p.m.now); !view.Same(v, w) {
				t.Fatalf("%d: the view of %d is %+v, want %+v", i, user, v, w)
			}
		}
	}
}

// A match is a player's turns on a server, with what is still to come in, and how often what was answered.
type match struct {
	player
	s        *server.Server
	sent     [8][]byte
	statuses map[byte]int
	full     int
}

// tick lets both clocks go on.
func (x *match) tick(t *testing.T, n int) {
	if ok := x.s.Tick(n); ok != (n >= 0) {
		t.Fatal(n, ok)
	}
	x.m.now = min(x.m.now+max(n, 0), ever)
}

// feed lets some bytes come in, or of a connection that is picked seldom so many that it is full at times.
func (x *match) feed(t *testing.T, conn int) {
	for len(x.sent[conn]) == 0 || x.Intn(4) == 0 {
		x.sent[conn] = append(x.sent[conn], x.frame()...)
	}
	n := oneOf(x.player, len(x.sent[conn]), len(x.sent[conn]), x.Intn(len(x.sent[conn])+1))
	if conn == 7 {
		x.sent[conn] = append(x.sent[conn], long(4000)...)
		n = min(len(x.sent[conn]), 1500)
	}
	ok := x.m.feed(conn, x.sent[conn][:n])
	if is := x.s.Feed(conn, x.sent[conn][:n]); is != ok {
		t.Fatalf("%d bytes: %v, want %v", n, is, ok)
	}
	if ok {
		x.sent[conn] = x.sent[conn][n:]
	} else {
		x.full++
	}
}

// pick picks a connection.
func (x *match) pick(t *testing.T, conn int, draw uint64) {
	b, ok := x.m.pick(conn, draw)
	if is, did := x.s.Pick(conn, draw); did != ok || !bytes.Equal(is, b) {
		t.Fatalf("picked: %v %v, want %v %v", is, did, b, ok)
	}
	if ok {
		x.statuses[b[0]]++
	}
}

// turn is one of many.
func (x *match) turn(t *testing.T) {
	conn := x.Intn(8)
	switch x.Intn(20) {
	case 0:
		x.tick(t, oneOf(x.player, 0, 1, 1, 2, 20, -1))
	case 1, 2, 3, 4, 5, 6, 7:
		x.feed(t, conn)
	default:
		if conn < 7 || x.Intn(4) == 0 {
			x.pick(t, conn, x.draw())
		}
	}
}

// W1, P24.1, P24.2: whatever comes in, a server answers and tells what the document says.
func TestModel(t *testing.T) {
	statuses := map[byte]int{}
	full := 0
	for seed := range 150 {
		secrets := []uint64{201, 202, 203}[:1+seed%3]
		x := &match{player: player{rand.New(rand.NewSource(int64(seed))), modelOf(secrets)}, s: of(t, secrets...), statuses: statuses}
		for n := range 600 {
			if n == 570 && seed%2 == 0 { // at the greatest tick it goes on as well
				x.tick(t, ever)
			}
			x.turn(t)
			if n%8 == 0 {
				x.same(t, x.s)
			}
		}
		x.same(t, x.s)
		full += x.full
	}
	for status := range byte(13) {
		if statuses[status] < 5 {
			t.Error("too seldom answered:", status, statuses)
		}
	}
	if full < 20 {
		t.Error("too seldom full:", full)
	}
}
