package server_test

import (
	"bytes"
	"math"
	"math/rand"
	"slices"
	"testing"

	"paravent/api"
	"paravent/reply"
	"paravent/server"
	"paravent/view"
	"paravent/wire"
)

// A lane plays a player's requests on a server, one by one, each on some connection, and the model in step with it.
type lane struct {
	player
	s *server.Server
}

func laneOf(t testing.TB, seed int, secrets ...uint64) lane {
	return lane{player{rand.New(rand.NewSource(int64(seed))), modelOf(secrets)}, of(t, secrets...)}
}

// do feeds a frame, picks, and is the answer's bytes. The model does the same.
func (l lane) do(t testing.TB, frame []byte, draw uint64) []byte {
	t.Helper()
	conn := l.Intn(8)
	feed(t, l.s, conn, frame...)
	l.m.feed(conn, frame)
	want, _ := l.m.pick(conn, draw)
	b, ok := l.s.Pick(conn, draw)
	if !ok || !bytes.Equal(b, want) {
		t.Fatalf("%v is answered %v %v, want %v", frame, b, ok, want)
	}
	return b
}

// wait lets both clocks go on.
func (l lane) wait(n int) {
	l.s.Tick(n)
	l.m.now = min(l.m.now+n, ever)
}

// P24.3: an answer is as long as the Op and the M of what was asked tell, whatever it is.
func TestLengths(t *testing.T) {
	n := map[[2]int]int{} // how often an operation had a status
	for seed := range 40 {
		l := laneOf(t, seed, 201, 202)
		for range 400 {
			l.wait(l.Intn(2))
			r := l.request()
			b := l.do(t, asked(r), l.draw())
			a, e := reply.Decode(r.Op, r.M, b)
			if len(b) != reply.Length(r.Op, r.M) || e != api.OK || int(b[1]) != r.Op {
				t.Fatalf("%+v is answered %v: %d bytes, %d", r, b, len(b), e)
			}
			n[[2]int{r.Op, a.Status}]++
		}
		l.wait(ever)
		for range 40 {
			r := l.request()
			if b := l.do(t, asked(r), l.draw()); len(b) != reply.Length(r.Op, r.M) || b[0] != api.StLate {
				t.Fatalf("%+v is answered %v", r, b)
			}
		}
		for _, b := range noRequests() {
			if b := l.do(t, framed(b), 1); !bytes.Equal(b, []byte{1, 0, 0}) {
				t.Error(b)
			}
		}
		for _, n := range []int{601, 602, 1000, 4094} {
			if b := l.do(t, long(n), 1); !bytes.Equal(b, []byte{2, 0, 0}) {
				t.Error(b)
			}
		}
	}
	for op := api.OpEnrol; op <= api.OpQuota; op++ {
		if n[[2]int{op, api.StOK}] < 5 || n[[2]int{op, api.StUnknown}] < 5 {
			t.Error("too seldom done, or refused:", op, n)
		}
	}
}

// P24.4: bytes that come in in other pieces are answered the same.
func TestPieces(t *testing.T) {
	for seed := range 60 {
		l := laneOf(t, seed, 201, 202)
		var all []byte
		var draws []uint64
		want := [][]byte{}
		for {
			f := l.frame()
			if len(all)+len(f) > 4096 {
				break
			}
			draw := l.draw()
			all, draws, want = append(all, f...), append(draws, draw), append(want, l.do(t, f, draw))
		}
		for _, cut := range []func() int{
			func() int { return len(all) }, func() int { return 1 }, func() int { return 2 }, func() int { return 1 + l.Intn(30) }, func() int { return l.Intn(900) },
		} {
			for _, soon := range []int{0, 1, 3} { // how often it is picked in between
				s := of(t, 201, 202)
				took := 0
				pick := func() bool {
					var draw uint64
					if took < len(draws) {
						draw = draws[took]
					}
					b, ok := s.Pick(3, draw)
					if !ok {
						return false
					}
					if took == len(want) || !bytes.Equal(b, want[took]) {
						t.Fatalf("the frame %d is answered %v", took, b)
					}
					took++
					return true
				}
				for rest := all; len(rest) > 0; {
					n := min(cut(), len(rest))
					feed(t, s, 3, rest[:n]...)
					rest = rest[n:]
					for range soon {
						pick()
					}
				}
				for pick() {
				}
				if took != len(want) || !bytes.Equal(s.Out(3), bytes.Join(want, nil)) || s.Waiting(3) != 0 {
					t.Fatalf("%d frames of %d are answered %v, %d bytes wait", took, len(want), s.Out(3), s.Waiting(3))
				}
				for i := range 2 {
					e, past := s.Trail(i)
					f, was := l.s.Trail(i)
					if !slices.Equal(e, f) || past != was || !view.Same(s.View(i, 0), l.s.View(i, 0)) {
						t.Fatal("in other pieces the tenant is another one:", e, f)
					}
				}
				if !slices.Equal(s.Strays(), l.s.Strays()) {
					t.Fatal("in other pieces the strays are", s.Strays(), l.s.Strays())
				}
			}
		}
	}
}

// counts are how many events there were of each tenant, and behind them of strays.
func (l lane) counts() []int {
	var n []int
	for i := range l.s.Tenants() {
		e, past := l.s.Trail(i)
		n = append(n, len(e)+past)
	}
	return append(n, len(l.s.Strays()))
}

// P24.5: each frame that is taken puts one event, but for a quota that is spent.
func TestOneEventAFrame(t *testing.T) {
	spent := 0
	for seed := range 40 {
		l := laneOf(t, seed, 201, 202, 203)
		for turn := range 400 {
			l.wait(l.Intn(2))
			if turn == 380 {
				l.wait(ever)
			}
			want := l.counts()
			f := l.frame()
			b := l.do(t, f, l.draw())
			r, e := wire.Decode(f[2:])
			switch {
			case b[0] == api.StQuota:
				spent++
			case e != api.OK || len(f) > 602 || l.s.Now() == ever || r.Tenant >= 3:
				want[3]++
			default:
				want[r.Tenant]++
			}
			if n := l.counts(); !slices.Equal(n, want) {
				t.Fatalf("behind %v, answered %v, there are %v events, want %v", f, b, n, want)
			}
			nothing(t, l.s, l.Intn(8))
			if n := l.counts(); !slices.Equal(n, want) {
				t.Fatalf("behind nothing there are %v events, want %v", n, want)
			}
		}
	}
	if spent < 20 {
		t.Error("too seldom spent:", spent)
	}
}

// P24.6: what is asked of others turns nothing of a tenant: neither what it answers nor what it is.
func TestOthersTurnNothing(t *testing.T) {
	own := 0
	for seed := range 40 {
		l := laneOf(t, seed, 201, 202, 201)
		alone := of(t, 201, 202, 201)
		for range 300 {
			n := oneOf(l.player, 0, 0, 1, 5)
			alone.Tick(n)
			l.wait(n)
			f, draw := l.frame(), l.draw()
			b := l.do(t, f, draw)
			if r, e := wire.Decode(f[2:]); e == api.OK && r.Tenant == 1 {
				own++
				feed(t, alone, 2, f...)
				if is, ok := alone.Pick(2, draw); !ok || !bytes.Equal(is, b) {
					t.Fatalf("%+v is answered %v, alone %v", r, b, is)
				}
			}
			for user := range 3 {
				if v, w := l.s.View(1, user), alone.View(1, user); !view.Same(v, w) {
					t.Fatalf("the view of %d is %+v, alone %+v", user, v, w)
				}
			}
			e, past := l.s.Trail(1)
			if w, was := alone.Trail(1); !slices.Equal(e, w) || past != was {
				t.Fatalf("the trail is %+v %d, alone %+v %d", e, past, w, was)
			}
		}
	}
	if own < 1000 {
		t.Error("too seldom asked:", own)
	}
}

// P24.7: at the greatest tick no tenant changes.
func TestLastTick(t *testing.T) {
	for seed := range 40 {
		l := laneOf(t, seed, 201, 202)
		for range 200 {
			l.do(t, asked(l.request()), l.draw())
		}
		l.wait(ever - 1)
		was := []api.View{l.s.View(0, 0), l.s.View(1, 0)}
		want(t, l.s, api.StOK, 0, by(0, 0, 201, report(1, 2, 3))) // one tick ahead they still do
		if view.Same(l.s.View(0, 0), was[0]) {
			t.Fatal("nothing is done one tick ahead of the greatest")
		}
		l.wait(1)
		was = []api.View{l.s.View(0, 0), l.s.View(1, 0)}
		n := l.counts()
		for turn := range 100 {
			l.s.Tick(turn)
			r := l.request()
			feed(t, l.s, 0, asked(r)...)
			if b, ok := l.s.Pick(0, l.draw()); !ok || b[0] != api.StLate {
				t.Fatalf("%+v is answered %v", r, b)
			}
			n[2]++
			if is := l.counts(); !slices.Equal(is, n) {
				t.Fatal("events:", is, n)
			}
			for i, v := range was {
				if is := l.s.View(i, 0); !view.Same(is, v) {
					t.Fatalf("%+v turns the tenant %d from %+v\nto %+v", r, i, v, is)
				}
			}
		}
	}
}

// What is told turns nothing: a server that is asked for all that it tells answers as one that is asked for nothing.
func TestTellingTurnsNothing(t *testing.T) {
	for seed := range 20 {
		l := laneOf(t, seed, 201, 202)
		silent := of(t, 201, 202)
		for range 300 {
			n := l.Intn(8)
			l.wait(n)
			silent.Tick(n)
			for user := range 7 {
				l.s.View(l.Intn(3), user)
			}
			l.s.Trail(l.Intn(3))
			l.s.Out(l.Intn(9))
			l.s.Strays()
			f, draw := l.frame(), l.draw()
			feed(t, silent, 1, f...)
			answered(t, silent, 1, draw, l.do(t, f, draw)...)
		}
		for i := range 2 {
			if v, w := l.s.View(i, 0), silent.View(i, 0); !view.Same(v, w) {
				t.Fatalf("the view is %+v, want %+v", v, w)
			}
		}
	}
}

// P1

func TestWildArguments(t *testing.T) {
	numbers := []int{0, 1, 7, 8, 255, 65535, 65536, ever, ever + 1, -1, -8, math.MinInt, math.MaxInt}
	for _, s := range []*server.Server{nil, {}, of(t, 9), of(t, 1, 2, 3, 4, 5, 6, 7, 8), town(t)} {
		for _, n := range numbers {
			for _, b := range [][]byte{nil, {}, {0}, {255, 255}, make([]byte, 4096), make([]byte, 100000), asked(by(0, 0, 9, op(api.OpWhere)))} {
				s.Feed(n, b)
				for _, draw := range []uint64{0, 1, math.MaxUint64} {
					s.Pick(n, draw)
				}
			}
			for _, m := range numbers {
				s.View(n, m)
			}
			s.Trail(n)
			s.Out(n)
			s.Waiting(n)
			s.Tick(n)
			if now := s.Now(); now < 0 || now > ever {
				t.Error(now)
			}
			s.Strays()
			s.Tenants()
		}
	}
	for _, n := range []int{0, 1, 8, 9, 1000} {
		server.New(make([]uint64, n))
		server.New(slices.Repeat([]uint64{math.MaxUint64}, n))
	}
}
