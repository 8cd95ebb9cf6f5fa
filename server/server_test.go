package server_test

import (
	"bytes"
	"math"
	"slices"
	"strings"
	"testing"

	"paravent/api"
	"paravent/frame"
	"paravent/reply"
	"paravent/server"
	"paravent/tenant"
	"paravent/view"
	"paravent/wire"
)

const (
	last = api.Side - 1
	ever = api.MaxTick
)

func rc(x0, y0, x1, y1 int) api.Rect { return api.Rect{X0: x0, Y0: y0, X1: x1, Y1: y1} }

func pt(x, y int) api.Point { return api.Point{X: x, Y: y} }

func grid() api.Rect { return rc(0, 0, last, last) }

// by is a request of a user of a tenant with a secret.
func by(tenant, user int, secret uint64, r api.Request) api.Request {
	r.Tenant, r.User, r.Secret = tenant, user, secret
	return r
}

// op is a request without fields.
func op(n int) api.Request { return api.Request{Op: n} }

func enrol(whom, role, tier, quota int) api.Request {
	return api.Request{Op: api.OpEnrol, Whom: whom, Role: role, Tier: tier, Quota: quota}
}

func policy(text string) api.Request { return api.Request{Op: api.OpPolicy, Text: text} }

func mint(whom, rights, until int) api.Request {
	return api.Request{Op: api.OpMint, Whom: whom, Rights: rights, Until: until}
}

func report(x, y, label int) api.Request {
	return api.Request{Op: api.OpReport, At: pt(x, y), Label: label}
}

func window(box api.Rect, m int) api.Request { return api.Request{Op: api.OpWindow, Box: box, M: m} }

// everyOp is a request of each operation, which may be.
func everyOp() []api.Request {
	var l []api.Request
	for n := api.OpEnrol; n <= api.OpQuota; n++ {
		l = append(l, op(n))
	}
	return l
}

// body is a request's bytes.
func body(r api.Request) []byte {
	b, e := wire.Encode(r)
	if e != api.OK {
		panic("no request")
	}
	return b
}

// framed is the frame of a body, put together here.
func framed(b []byte) []byte {
	return append([]byte{byte(len(b) >> 8), byte(len(b))}, b...)
}

// asked is the frame of a request.
func asked(r api.Request) []byte { return framed(body(r)) }

// long is a frame of n bytes, which is too long.
func long(n int) []byte { return framed(bytes.Repeat([]byte{200}, n)) }

// of is a server with a tenant for each secret.
func of(t testing.TB, secrets ...uint64) *server.Server {
	t.Helper()
	s, e := server.New(secrets)
	if e != api.OK || s == nil {
		t.Fatalf("New(%v): %d", secrets, e)
	}
	return s
}

// feed lets bytes come in that are to be taken.
func feed(t testing.TB, s *server.Server, conn int, l ...byte) {
	t.Helper()
	if !s.Feed(conn, l) {
		t.Fatalf("%d bytes are not taken by %d, where %d wait", len(l), conn, s.Waiting(conn))
	}
}

// answered picks a connection and wants bytes.
func answered(t testing.TB, s *server.Server, conn int, draw uint64, want ...byte) {
	t.Helper()
	if b, ok := s.Pick(conn, draw); !ok || !bytes.Equal(b, want) {
		t.Errorf("picked: %v %v, want %v", b, ok, want)
	}
}

// nothing picks a connection and wants nothing to happen.
func nothing(t testing.TB, s *server.Server, conn int) {
	t.Helper()
	waits, out, strays := s.Waiting(conn), s.Out(conn), s.Strays()
	if b, ok := s.Pick(conn, 5); ok || len(b) != 0 {
		t.Errorf("picked: %v %v, want nothing", b, ok)
	}
	if s.Waiting(conn) != waits || !bytes.Equal(s.Out(conn), out) || !slices.Equal(s.Strays(), strays) {
		t.Error("something happened:", s.Waiting(conn), s.Out(conn), s.Strays())
	}
}

// ask feeds the frame of a request, picks, and is the answer, whose bytes are as many as what was asked tells.
func ask(t testing.TB, s *server.Server, conn int, draw uint64, r api.Request) api.Answer {
	t.Helper()
	feed(t, s, conn, asked(r)...)
	b, ok := s.Pick(conn, draw)
	if !ok {
		t.Fatalf("%+v is not answered", r)
	}
	a, e := reply.Decode(r.Op, r.M, b)
	if e != api.OK {
		t.Fatalf("%+v is answered %v: %d", r, b, e)
	}
	return a
}

// want asks and wants a status.
func want(t testing.TB, s *server.Server, status int, draw uint64, r api.Request) {
	t.Helper()
	if a := ask(t, s, 0, draw, r); a.Status != status {
		t.Fatalf("%+v is answered %+v, want the status %d", r, a, status)
	}
}

// tick lets the clock go on.
func tick(t testing.TB, s *server.Server, n, now int) {
	t.Helper()
	if !s.Tick(n) || s.Now() != now {
		t.Fatalf("behind Tick(%d) it is %d, want %d", n, s.Now(), now)
	}
}

// wantStrays wants strays.
func wantStrays(t testing.TB, s *server.Server, l ...api.Event) {
	t.Helper()
	if is := s.Strays(); !slices.Equal(is, l) {
		t.Errorf("the strays are %+v, want %+v", is, l)
	}
}

// stray is an event that is no tenant's.
func stray(op, status, now int) api.Event {
	return api.Event{User: 65535, Op: op, Status: status, Tick: now}
}

// wantTrail wants the events of a tenant.
func wantTrail(t testing.TB, s *server.Server, tenant, past int, l ...api.Event) {
	t.Helper()
	if is, n := s.Trail(tenant); n != past || !slices.Equal(is, l) {
		t.Errorf("the trail is %+v, %d drained, want %+v, %d", is, n, l, past)
	}
}

// P24.1

func TestNewErrors(t *testing.T) {
	for _, c := range []struct {
		want    api.Errno
		secrets []uint64
	}{
		{api.ErrArg, nil}, {api.ErrArg, []uint64{}}, {api.ErrArg, make([]uint64, 9)}, {api.ErrArg, []uint64{1, 2, 3, 4, 5, 6, 7, 8, 9}},
		{api.ErrArg, make([]uint64, 100)}, {api.ErrDraw, []uint64{0}}, {api.ErrDraw, make([]uint64, 8)}, {api.ErrDraw, []uint64{1, 2, 0}},
		{api.ErrDraw, []uint64{0, 1, 2}}, {api.ErrDraw, []uint64{1, 2, 3, 0, 5, 6, 7, 8}}, {api.ErrDraw, []uint64{1, 2, 3, 4, 5, 6, 7, 0}},
	} {
		if s, e := server.New(c.secrets); s != nil || e != c.want {
			t.Errorf("New(%v): %v %d, want %d", c.secrets, s, e, c.want)
		}
	}
}

func TestNew(t *testing.T) {
	for n := 1; n <= 8; n++ {
		secrets := []uint64{math.MaxUint64, 7, 7, 1, 1 << 63, 256, 9, 8}[:n]
		s := of(t, secrets...)
		if s.Tenants() != n || s.Now() != 0 || len(s.Strays()) != 0 {
			t.Error(s.Tenants(), s.Now(), s.Strays())
		}
		for conn := range 8 {
			if len(s.Out(conn)) != 0 || s.Waiting(conn) != 0 {
				t.Error(conn, s.Out(conn), s.Waiting(conn))
			}
		}
		for i, secret := range secrets {
			wantTrail(t, s, i, 0)
			first, _ := tenant.New(secret)
			if v := s.View(i, 0); !view.Same(v, view.Of(first, 0, 0)) {
				t.Errorf("%d: %+v", i, v)
			}
			want(t, s, api.StUnknown, 0, by(i, 0, secret+1, op(api.OpWhere)))
			want(t, s, api.StNone, 0, by(i, 0, secret, op(api.OpWhere)))
		}
	}
}

func TestSecretsAreNotKept(t *testing.T) {
	secrets := []uint64{9, 8}
	s := of(t, secrets...)
	secrets[0], secrets[1] = 5, 0
	want(t, s, api.StNone, 0, by(0, 0, 9, op(api.OpWhere)))
	want(t, s, api.StNone, 0, by(1, 0, 8, op(api.OpWhere)))
	want(t, s, api.StUnknown, 0, by(0, 0, 5, op(api.OpWhere)))
}

// absent are numbers of which there is no connection, and no tenant.
func absent() []int { return []int{-1, 8, 9, 255, 256, math.MinInt, math.MaxInt} }

func TestFeed(t *testing.T) {
	s := of(t, 9)
	for _, conn := range absent() {
		if s.Feed(conn, []byte{1}) || s.Feed(conn, nil) {
			t.Error("there is no connection", conn)
		}
	}
	for conn := range 8 {
		feed(t, s, conn)
		feed(t, s, conn, make([]byte, conn)...)
		feed(t, s, conn, 1)
	}
	for conn := range 8 {
		if s.Waiting(conn) != conn+1 {
			t.Error(conn, s.Waiting(conn))
		}
	}
}

func TestRoom(t *testing.T) {
	s := of(t, 9)
	if s.Feed(2, make([]byte, 4097)) || s.Waiting(2) != 0 {
		t.Error("there is no room for 4097 bytes:", s.Waiting(2))
	}
	feed(t, s, 2, make([]byte, 4000)...)
	if s.Feed(2, make([]byte, 97)) || s.Waiting(2) != 4000 {
		t.Error("there is no room for 97 more:", s.Waiting(2))
	}
	feed(t, s, 2, make([]byte, 96)...)
	if s.Feed(2, []byte{1}) || s.Waiting(2) != 4096 {
		t.Error("there is no room for one more:", s.Waiting(2))
	}
	feed(t, s, 2)
	feed(t, s, 1, make([]byte, 4096)...) // another connection has a buffer of its own
	answered(t, s, 2, 0, api.StBad, 0, 0)
	feed(t, s, 2, 1, 2)
	if s.Waiting(2) != 4096 {
		t.Error(s.Waiting(2))
	}
	// Of a frame that is too long what is still to come is passed over, and takes no room.
	feed(t, s, 3, 255, 255, 1)
	answered(t, s, 3, 0, api.StOver, 0, 0)
	feed(t, s, 3, make([]byte, 65534+4096)...)
	if s.Waiting(3) != 4096 || s.Feed(3, []byte{1}) {
		t.Error(s.Waiting(3))
	}
}

func TestBytesAreNotKept(t *testing.T) {
	s := of(t, 9)
	l := asked(by(0, 0, 9, op(api.OpWhere)))
	was := slices.Clone(l)
	feed(t, s, 0, l...)
	if !s.Feed(0, l) || !s.Feed(0, l[:4]) || !bytes.Equal(l, was) {
		t.Error("what is handed in is changed:", l)
	}
	clear(l)
	for range 2 {
		answered(t, s, 0, 0, api.StNone, api.OpWhere, 0, 0, 0, 0, 0, 0)
	}
	feed(t, s, 0, was[4:]...)
	answered(t, s, 0, 0, api.StNone, api.OpWhere, 0, 0, 0, 0, 0, 0)
}

func TestNothingIsPicked(t *testing.T) {
	s := of(t, 9)
	for _, conn := range absent() {
		nothing(t, s, conn)
	}
	whole := asked(by(0, 0, 9, op(api.OpWhere)))
	for conn := range 8 {
		nothing(t, s, conn)
	}
	for _, b := range whole {
		nothing(t, s, 5)
		feed(t, s, 5, b)
		nothing(t, s, 4)
	}
	answered(t, s, 5, 0, api.StNone, api.OpWhere, 0, 0, 0, 0, 0, 0)
	nothing(t, s, 5)
	wantTrail(t, s, 0, 0, api.Event{Op: api.OpWhere, Status: api.StNone})
	wantStrays(t, s)
}

// The example of the chapter.
func TestExample(t *testing.T) {
	s := of(t, 9)
	feed(t, s, 3, 0, 13, 12, 0, 0)
	nothing(t, s, 3)
	feed(t, s, 3, 0, 0, 0, 0, 0, 0, 0, 0, 9, 5)
	answered(t, s, 3, 0, 8, 12, 0, 0, 0, 0, 0, 0)
	if !bytes.Equal(s.Out(3), []byte{8, 12, 0, 0, 0, 0, 0, 0}) {
		t.Error(s.Out(3))
	}
}

func TestTooLong(t *testing.T) {
	s := of(t, 9)
	tick(t, s, 4, 4)
	for i, n := range []int{601, 602, 1000, 4094} {
		feed(t, s, 1, long(n)...)
		answered(t, s, 1, 7, 2, 0, 0)
		nothing(t, s, 1)
		if s.Waiting(1) != 0 || len(s.Strays()) != i+1 {
			t.Error(n, s.Waiting(1), s.Strays())
		}
	}
	e := stray(0, 2, 4)
	wantStrays(t, s, e, e, e, e)
	wantTrail(t, s, 0, 0)
	// Two bytes will do to tell it; the rest is passed over, and what stands behind it is a frame again.
	feed(t, s, 1, 2, 89)
	answered(t, s, 1, 7, 2, 0, 0)
	for range 601 {
		feed(t, s, 1, asked(op(api.OpWhere))[:1]...)
		nothing(t, s, 1)
	}
	feed(t, s, 1, asked(by(0, 0, 9, op(api.OpWhere)))...)
	answered(t, s, 1, 7, api.StNone, api.OpWhere, 0, 0, 0, 0, 0, 0)
	// The longest frame that is not too long is one of a request that is none.
	feed(t, s, 1, long(600)...)
	answered(t, s, 1, 7, 1, 0, 0)
	wantStrays(t, s, e, e, e, e, e, stray(0, 1, 4))
}

// noRequests are bodies that are no request.
func noRequests() [][]byte {
	where := body(by(0, 0, 9, op(api.OpWhere)))
	look := body(by(0, 0, 9, window(rc(1, 1, 1, 1), 64)))
	set := func(b []byte, at int, to byte) []byte {
		b = slices.Clone(b)
		b[at] = to
		return b
	}
	return [][]byte{
		nil, {0}, {12}, where[:12], set(where, 0, 0), set(where, 0, 20), set(where, 0, 255), set(where, 12, 65), append(slices.Clone(where), 0),
		look[:20], append(slices.Clone(look), 0), set(look, 12, 65), set(look, 14, 2), make([]byte, 13), make([]byte, 600),
		set(body(by(0, 0, 9, report(1, 1, 1))), 17, 8), set(body(by(0, 0, 9, enrol(1, 1, 1, 1))), 15, 8), set(body(by(0, 0, 9, mint(1, 1, 1))), 15, 32),
		append(body(by(0, 0, 9, policy(strings.Repeat("#", 512)))), '#'),
	}
}

func TestNoRequest(t *testing.T) {
	s := of(t, 9)
	tick(t, s, 2, 2)
	var l []api.Event
	for _, b := range noRequests() {
		if _, e := wire.Decode(b); e == api.OK {
			t.Fatalf("%v is a request", b)
		}
		feed(t, s, 7, framed(b)...)
		answered(t, s, 7, 3, 1, 0, 0)
		l = append(l, stray(0, 1, 2))
		wantStrays(t, s, l...)
	}
	wantTrail(t, s, 0, 0)
}

func TestUnknownTenant(t *testing.T) {
	s := of(t, 9, 8)
	tick(t, s, ever-1, ever-1)
	var l []api.Event
	for _, r := range everyOp() {
		for _, tenant := range []int{2, 3, 7, 8, 128, 255} {
			r = by(tenant, 1, 9, r)
			feed(t, s, 0, asked(r)...)
			answered(t, s, 0, 1, append([]byte{3, byte(r.Op)}, make([]byte, reply.Length(r.Op, 0)-2)...)...)
			l = append(l, stray(r.Op, 3, ever-1))
		}
	}
	wantStrays(t, s, l...)
	wantTrail(t, s, 0, 0)
	wantTrail(t, s, 1, 0)
}

func TestLate(t *testing.T) {
	s := of(t, 9, 8)
	want(t, s, api.StOK, 5, by(1, 0, 8, enrol(1, 1, 1, 1)))
	want(t, s, api.StOK, 5, by(1, 0, 8, mint(1, 31, ever)))
	tick(t, s, ever, ever)
	var l []api.Event
	for _, r := range everyOp() {
		for _, r := range []api.Request{by(0, 0, 9, r), by(1, 1, 5, r), by(1, 77, 1, r), by(2, 0, 9, r), by(255, 0, 9, r)} {
			feed(t, s, 0, asked(r)...)
			answered(t, s, 0, 1, append([]byte{5, byte(r.Op)}, make([]byte, reply.Length(r.Op, 0)-2)...)...)
			l = append(l, stray(r.Op, 5, ever))
		}
	}
	wantStrays(t, s, l...)
	// What is no request is that at any tick.
	feed(t, s, 0, framed([]byte{12})...)
	answered(t, s, 0, 1, 1, 0, 0)
	feed(t, s, 0, long(601)...)
	answered(t, s, 0, 1, 2, 0, 0)
	wantStrays(t, s, append(l, stray(0, 1, ever), stray(0, 2, ever))...)
	wantTrail(t, s, 0, 0)
	wantTrail(t, s, 1, 0, api.Event{Op: api.OpEnrol}, api.Event{Op: api.OpMint})
}

// A request is done by its tenant, with the draw, at the clock's tick.
func TestTenantsDo(t *testing.T) {
	s := of(t, 9, 8)
	want(t, s, api.StOK, 0, by(1, 0, 8, enrol(1, 2, 3, 5)))
	tick(t, s, 3, 3)
	feed(t, s, 4, asked(by(1, 0, 8, mint(1, api.MayOwn, 6)))...)
	answered(t, s, 4, 0x0102030405060708, 0, 4, 0, 1, 2, 3, 4, 5, 6, 7, 8)
	feed(t, s, 4, asked(by(1, 0, 8, mint(1, api.MayOwn, 6)))...)
	answered(t, s, 4, 0, 7, 4, 0, 0, 0, 0, 0, 0, 0, 0, 0)
	want(t, s, api.StOK, 0, by(1, 1, 0x0102030405060708, report(258, 3, 4)))
	tick(t, s, 3, 6)
	feed(t, s, 4, asked(by(1, 1, 0x0102030405060708, op(api.OpWhere)))...)
	answered(t, s, 4, 0, 0, 12, 0, 1, 2, 0, 3, 4)
	want(t, s, api.StDenied, 0, by(1, 1, 0x0102030405060708, window(grid(), 2)))
	tick(t, s, 1, 7)
	want(t, s, api.StUnknown, 0, by(1, 1, 0x0102030405060708, op(api.OpWhere)))
	want(t, s, api.StUnknown, 0, by(0, 1, 0x0102030405060708, op(api.OpWhere)))
	want(t, s, api.StOK, 0, by(1, 0, 8, policy("allow role any tier any label any in all zoom 14;")))
	feed(t, s, 4, asked(by(1, 0, 8, window(rc(256, 0, 300, 300), 2)))...)
	seen := []byte{0, 1, 14, 1, 0, 0, 0, 1, 3, 0, 3}
	answered(t, s, 4, 0, append(append([]byte{0, 13, 1}, seen...), make([]byte, 11)...)...)
	wantTrail(t, s, 0, 0, api.Event{User: 65535, Op: 12, Status: 3, Tick: 7})
	wantTrail(t, s, 1, 0,
		api.Event{Op: 1}, api.Event{Op: 4, Tick: 3}, api.Event{Op: 4, Status: 7, Tick: 3}, api.Event{User: 1, Op: 8, Tick: 3},
		api.Event{User: 1, Op: 12, Tick: 6}, api.Event{User: 1, Op: 13, Status: 6, Tick: 6}, api.Event{User: 65535, Op: 12, Status: 3, Tick: 7},
		api.Event{Op: 3, Tick: 7}, api.Event{Op: 13, Tick: 7},
	)
	wantStrays(t, s)
}

// Frames of a connection are taken one by one, in order; connections are picked in any order.
func TestOneFrameAPick(t *testing.T) {
	s := of(t, 9)
	where := asked(by(0, 0, 9, op(api.OpWhere)))
	there := asked(by(0, 0, 9, report(1, 2, 3)))
	feed(t, s, 0, slices.Concat(where, there, long(700), where, framed(nil))...)
	feed(t, s, 6, slices.Concat(where, where)...)
	answered(t, s, 0, 0, 8, 12, 0, 0, 0, 0, 0, 0)
	answered(t, s, 6, 0, 8, 12, 0, 0, 0, 0, 0, 0)
	answered(t, s, 0, 0, 0, 8, 0)
	answered(t, s, 6, 0, 0, 12, 0, 0, 1, 0, 2, 3)
	nothing(t, s, 6)
	answered(t, s, 0, 0, 2, 0, 0)
	answered(t, s, 0, 0, 0, 12, 0, 0, 1, 0, 2, 3)
	answered(t, s, 0, 0, 1, 0, 0)
	nothing(t, s, 0)
	if b := s.Out(0); !bytes.Equal(b, []byte{8, 12, 0, 0, 0, 0, 0, 0, 0, 8, 0, 2, 0, 0, 0, 12, 0, 0, 1, 0, 2, 3, 1, 0, 0}) {
		t.Error(b)
	}
	if b := s.Out(6); !bytes.Equal(b, []byte{8, 12, 0, 0, 0, 0, 0, 0, 0, 12, 0, 0, 1, 0, 2, 3}) {
		t.Error(b)
	}
	if b := s.Out(1); len(b) != 0 {
		t.Error(b)
	}
}

func TestTick(t *testing.T) {
	s := of(t, 9)
	for _, n := range []int{-1, math.MinInt} {
		if s.Tick(n) || s.Now() != 0 {
			t.Error("the clock went on by", n, "to", s.Now())
		}
	}
	tick(t, s, 0, 0)
	tick(t, s, 5, 5)
	tick(t, s, 1<<31, 5+1<<31)
	tick(t, s, 1<<31-7, ever-1)
	if s.Tick(-1) || s.Now() != ever-1 {
		t.Error("the clock went back to", s.Now())
	}
	tick(t, s, 1, ever)
	tick(t, s, 0, ever)
	tick(t, s, 1, ever)
	tick(t, s, math.MaxInt, ever)
	if s.Tick(-5) || s.Now() != ever {
		t.Error("the clock went back to", s.Now())
	}
	for _, n := range []int{ever, ever + 1, math.MaxInt} {
		s := of(t, 9)
		tick(t, s, 1, 1)
		tick(t, s, n, ever)
	}
}

// P24.2

// town is a server whose first tenant has members, tickets, records, a cloak, events, some of which are drained.
func town(t testing.TB) *server.Server {
	s := of(t, 9, 8)
	want(t, s, api.StOK, 0, by(0, 0, 9, policy("allow role 1 tier any label any in all zoom 14; cloak role 1;")))
	for user := 1; user <= 3; user++ {
		want(t, s, api.StOK, 0, by(0, 0, 9, enrol(user, user%2, 0, 9)))
		want(t, s, api.StOK, uint64(10+user), by(0, 0, 9, mint(user, 31, 20*user)))
		want(t, s, api.StOK, 0, by(0, user, uint64(10+user), report(4+user, 4, user)))
	}
	want(t, s, api.StOK, 0, by(0, 1, 11, api.Request{Op: api.OpProfile, Profile: api.Profile{K: 2, Area: 4}}))
	want(t, s, api.StOK, 0, by(0, 1, 11, op(api.OpPublish)))
	want(t, s, api.StOK, 0, by(0, 0, 9, api.Request{Op: api.OpDrain, M: 5}))
	want(t, s, api.StUnknown, 0, by(5, 0, 9, op(api.OpWhere)))
	return s
}

func TestViews(t *testing.T) {
	s := town(t)
	for _, c := range []struct{ n, now int }{{0, 0}, {20, 20}, {1, 21}, {ever, ever}} {
		tick(t, s, c.n, c.now)
		v := s.View(0, 1)
		if !v.Known || v.Tick != c.now || v.Member.Profile.K != 2 || len(v.Records) != 1 || v.Records[0].At != pt(5, 4) || len(v.Own) != 1 || len(v.Seen) != 3 {
			t.Errorf("at %d: %+v", c.now, v)
		}
		if has := len(v.Tickets) == 1; has != (c.now <= 20) {
			t.Errorf("at %d: %+v", c.now, v.Tickets)
		}
		if v := s.View(0, 0); len(v.Members) != 4 || len(v.Events) != 8 || v.Tick != c.now || v.Text == "" {
			t.Errorf("at %d: %+v", c.now, v)
		}
		first, _ := tenant.New(8)
		if v := s.View(1, 0); !view.Same(v, view.Of(first, 0, c.now)) {
			t.Errorf("at %d: %+v", c.now, v)
		}
		for _, user := range []int{4, -1, 65535, math.MinInt, math.MaxInt} {
			if v := s.View(0, user); !view.Same(v, api.View{Tick: c.now}) {
				t.Errorf("at %d: of %d %+v", c.now, user, v)
			}
		}
		if v := s.View(1, 1); !view.Same(v, api.View{Tick: c.now}) {
			t.Errorf("at %d: %+v", c.now, v)
		}
	}
}

func TestTrails(t *testing.T) {
	s := town(t)
	l, past := s.Trail(0)
	if past != 5 || len(l) != 8 || l[len(l)-1] != (api.Event{Op: api.OpDrain}) || l[0] != (api.Event{Op: api.OpMint}) {
		t.Error(l, past)
	}
	wantTrail(t, s, 1, 0)
	wantStrays(t, s, stray(api.OpWhere, api.StUnknown, 0))
}

func TestNotThere(t *testing.T) {
	s := town(t)
	tick(t, s, 7, 7)
	for _, n := range append(absent(), 2, 7) {
		if l, past := s.Trail(n); len(l) != 0 || past != 0 {
			t.Error(n, l, past)
		}
		for _, user := range []int{0, 1, -1, 65535} {
			if v := s.View(n, user); !view.Same(v, api.View{Tick: 7}) {
				t.Errorf("%d: %+v", n, v)
			}
		}
	}
	for _, conn := range absent() {
		if len(s.Out(conn)) != 0 || s.Waiting(conn) != 0 {
			t.Error(conn, s.Out(conn), s.Waiting(conn))
		}
	}
}

func TestNil(t *testing.T) {
	var s *server.Server
	for _, n := range append(absent(), 0, 1, 7) {
		if s.Feed(n, []byte{0, 0}) || s.Feed(n, nil) || s.Tick(n) || s.Waiting(n) != 0 || len(s.Out(n)) != 0 {
			t.Error("a nil server has something of", n)
		}
		if b, ok := s.Pick(n, 5); ok || len(b) != 0 {
			t.Error(b, ok)
		}
		if l, past := s.Trail(n); len(l) != 0 || past != 0 {
			t.Error(l, past)
		}
		for _, user := range []int{0, n} {
			if v := s.View(n, user); !view.Same(v, api.View{}) {
				t.Errorf("%+v", v)
			}
		}
	}
	if s.Now() != 0 || len(s.Strays()) != 0 || s.Tenants() != 0 {
		t.Error(s.Now(), s.Strays(), s.Tenants())
	}
}

// What is answered is new memory: whoever changes it, or puts something behind it, changes nothing of the server.
func TestNewMemory(t *testing.T) {
	s := town(t)
	feed(t, s, 0, asked(by(0, 0, 9, window(grid(), 3)))...)
	b, _ := s.Pick(0, 0)
	told := slices.Clone(b)
	out, strays, trail := slices.Clone(s.Out(0)), slices.Clone(s.Strays()), slices.Clone(first(s.Trail(0)))
	spoil(s.Out(0), 1)
	spoil(b, 1)
	spoil(s.Strays(), api.Event{User: 1})
	spoil(first(s.Trail(0)), api.Event{User: 1})
	v := s.View(0, 0)
	spoil(v.Members, api.Member{})
	spoil(v.Events, api.Event{User: 3})
	if !bytes.Equal(s.Out(0), out) || !slices.Equal(s.Strays(), strays) || !slices.Equal(first(s.Trail(0)), trail) {
		t.Error("what is answered is shared:", s.Out(0), s.Strays())
	}
	if len(s.View(0, 0).Members) != 4 || s.View(0, 0).Members[1].User != 1 {
		t.Errorf("%+v", s.View(0, 0))
	}
	// Nor does what was answered change by what is done later.
	strays = s.Strays()
	was := slices.Clone(strays)
	for range 20 {
		want(t, s, api.StUnknown, 0, by(7, 0, 9, op(api.OpWhere)))
	}
	if !slices.Equal(strays, was) || !bytes.HasPrefix(s.Out(0), out) || !bytes.HasSuffix(out, told) {
		t.Error(strays, out)
	}
}

// first is the events of a trail.
func first(l []api.Event, _ int) []api.Event { return l }

// spoil changes each element of a row, and what stands behind it in its memory.
func spoil[T any](row []T, x T) {
	row = row[:cap(row)]
	for i := range row {
		row[i] = x
	}
}

// What a server that New did not make has is nothing, but for its clock.
func TestZeroServer(t *testing.T) {
	s := &server.Server{}
	for _, n := range append(absent(), 0, 7) {
		nothing(t, s, n)
		if s.Feed(n, []byte{0, 0}) || s.Feed(n, nil) || len(s.Out(n)) != 0 || s.Waiting(n) != 0 || s.Tenants() != 0 {
			t.Error(n)
		}
		if l, past := s.Trail(n); len(l) != 0 || past != 0 {
			t.Error(l, past)
		}
		if v := s.View(n, 0); !view.Same(v, api.View{}) {
			t.Errorf("%+v", v)
		}
	}
	tick(t, s, 3, 3)
}

// frame.Frame and what is put together here are the same.
func TestFramed(t *testing.T) {
	for _, n := range []int{0, 1, 255, 256, 600} {
		b := bytes.Repeat([]byte{7}, n)
		if l, e := frame.Frame(b); e != api.OK || !bytes.Equal(l, framed(b)) {
			t.Error(n, l, e)
		}
	}
}
