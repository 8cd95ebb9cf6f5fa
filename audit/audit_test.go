package audit_test

import (
	"math"
	"math/rand"
	"slices"
	"testing"

	"paravent/api"
	"paravent/audit"
)

// ev is an event of a user, which the tick tells from others.
func ev(user, tick int) api.Event {
	return api.Event{User: user, Op: api.OpReport, Status: api.StDenied, Tick: tick}
}

// of are events of some users, in order, with the ticks 0, 1 and so on.
func of(users ...int) []api.Event {
	var l []api.Event
	for tick, user := range users {
		l = append(l, ev(user, tick))
	}
	return l
}

// with is a trail into which events were put.
func with(t *testing.T, l ...api.Event) *audit.Trail {
	t.Helper()
	a := audit.New()
	for _, e := range l {
		if !a.Put(e) {
			t.Fatal("not put:", e)
		}
	}
	return a
}

// wantEvents tells of events that are not those wanted.
func wantEvents(t *testing.T, what string, got, want []api.Event) {
	t.Helper()
	if !slices.Equal(got, want) {
		t.Fatalf("%s: %v, want %v", what, got, want)
	}
}

// wantTrail holds all that a trail tells against the events that are to be left, and how many are to be drained.
func wantTrail(t *testing.T, a *audit.Trail, past int, left ...api.Event) {
	t.Helper()
	wantEvents(t, "left", a.Left(), left)
	if a.Len() != len(left) || a.Past() != past {
		t.Fatalf("Len %d, Past %d, want %d, %d", a.Len(), a.Past(), len(left), past)
	}
	for _, user := range users() {
		own := model{left: left}.own(user)
		wantEvents(t, "own", a.Own(user, 0, math.MaxInt), own)
		if n := a.Count(user); n != len(own) {
			t.Fatalf("of %d there are %d, want %d", user, n, len(own))
		}
	}
}

// users are some users, also such as no tenant has.
func users() []int {
	return []int{0, 1, 2, 3, 7, api.Nobody - 1, api.Nobody, api.Nobody + 1, -1, math.MinInt, math.MaxInt}
}

func TestExample(t *testing.T) {
	l := of(1, 2, 1)
	a := with(t, l...)
	wantEvents(t, "Own", a.Own(1, 1, 9), l[2:])
	wantEvents(t, "Drain", a.Drain(2), l[:2])
	wantEvents(t, "Own", a.Own(1, 0, 9), l[2:])
	wantTrail(t, a, 2, l[2])
}

// P17.1

func TestNew(t *testing.T) {
	wantTrail(t, audit.New(), 0)
	a, b := audit.New(), audit.New()
	a.Put(ev(1, 0))
	a.Skip(3)
	wantTrail(t, a, 3, ev(1, 0))
	wantTrail(t, b, 0)
	var zero audit.Trail
	wantTrail(t, &zero, 0)
	wantEvents(t, "Drain", zero.Drain(9), nil)
	if !zero.Put(ev(1, 5)) || !zero.Skip(1) {
		t.Error("the zero trail takes nothing")
	}
	wantTrail(t, &zero, 1, ev(1, 5))
}

func TestPut(t *testing.T) {
	a := audit.New()
	var want []api.Event
	// Any event is put in, also one that no tenant would put, and one that is there already.
	for _, e := range []api.Event{
		ev(1, 4), ev(2, 3), ev(1, 4), {}, {}, ev(api.Nobody, 9), {User: 1, Op: 99, Status: -4, Tick: -1},
		{User: math.MinInt, Op: math.MinInt, Status: math.MaxInt, Tick: math.MaxInt}, {User: math.MaxInt}, ev(0, api.MaxTick),
	} {
		if !a.Put(e) {
			t.Fatal("not put:", e)
		}
		want = append(want, e)
		wantTrail(t, a, 0, want...)
	}
}

func TestOwn(t *testing.T) {
	l := of(1, 2, 1, 1, 0, 2, 1, api.Nobody)
	a := with(t, l...)
	one := []api.Event{l[0], l[2], l[3], l[6]}
	for from := range 6 {
		for most := range 6 {
			start := min(from, 4)
			wantEvents(t, "Own", a.Own(1, from, most), one[start:min(start+most, 4)])
		}
		wantEvents(t, "Own", a.Own(1, from, math.MaxInt), one[min(from, 4):])
	}
	wantEvents(t, "Own", a.Own(2, 0, 9), []api.Event{l[1], l[5]})
	wantEvents(t, "Own", a.Own(2, 1, 1), l[5:6])
	wantEvents(t, "Own", a.Own(0, 0, 1), l[4:5])
	wantEvents(t, "Own", a.Own(api.Nobody, 0, 1), l[7:])
	for _, user := range []int{3, -1, api.Nobody + 1, math.MinInt, math.MaxInt} {
		wantEvents(t, "Own", a.Own(user, 0, 9), nil)
	}
	for _, far := range []int{4, 5, 1 << 40, math.MaxInt} {
		for _, most := range []int{0, 1, 9, math.MaxInt} {
			wantEvents(t, "Own", a.Own(1, far, most), nil)
		}
	}
	for _, below := range []int{-1, -2, math.MinInt} {
		for _, n := range []int{0, 1, 4, math.MaxInt, below} {
			wantEvents(t, "Own", a.Own(1, below, n), nil)
			wantEvents(t, "Own", a.Own(1, n, below), nil)
		}
	}
	wantTrail(t, a, 0, l...) // to be told does not drain
}

func TestOwnAreThoseThatAreLeft(t *testing.T) {
	l := of(1, 2, 1, 1, 2, 1)
	a := with(t, l...)
	wantEvents(t, "Drain", a.Drain(1), l[:1])
	wantEvents(t, "Own", a.Own(1, 0, 2), l[2:4])
	wantEvents(t, "Own", a.Own(1, 1, 9), []api.Event{l[3], l[5]})
	wantEvents(t, "Drain", a.Drain(3), l[1:4])
	wantEvents(t, "Own", a.Own(1, 0, 9), l[5:])
	wantEvents(t, "Own", a.Own(1, 1, 9), nil)
	wantTrail(t, a, 4, l[4:]...)
}

func TestDrain(t *testing.T) {
	l := of(1, 2, 1, 3, 0)
	for most := range 8 {
		a := with(t, l...)
		n := min(most, 5)
		wantEvents(t, "Drain", a.Drain(most), l[:n])
		wantTrail(t, a, n, l[n:]...)
		wantEvents(t, "Drain", a.Drain(math.MaxInt), l[n:])
		wantTrail(t, a, 5)
		wantEvents(t, "Drain", a.Drain(most), nil)
		wantTrail(t, a, 5)
		a.Put(l[0])
		wantTrail(t, a, 5, l[0])
	}
	for _, most := range []int{0, -1, -5, math.MinInt} {
		a := with(t, l...)
		wantEvents(t, "Drain", a.Drain(most), nil)
		wantTrail(t, a, 0, l...)
	}
}

func TestNothingIsShared(t *testing.T) {
	l := of(1, 2, 1, 1, 2, 1, 3)
	spoil := func(got []api.Event) {
		for i := range got {
			got[i] = ev(99, 99)
		}
		_ = append(got, ev(98, 98), ev(97, 97)) // nor is the room behind an answer the trail's
	}
	a := with(t, l...)
	spoil(a.Left())
	spoil(a.Own(1, 0, 9))
	wantTrail(t, a, 0, l...)
	spoil(a.Drain(2))
	wantTrail(t, a, 2, l[2:]...)
	// What was told stays as it is, whatever is done later, and though another answer is spoilt.
	left, own, again := a.Left(), a.Own(1, 0, 2), a.Left()
	spoil(again)
	drained := a.Drain(2)
	a.Put(ev(4, 4))
	spoil(a.Drain(1))
	a.Put(ev(5, 5))
	spoil(a.Drain(9))
	a.Put(ev(6, 6))
	wantEvents(t, "left", left, l[2:])
	wantEvents(t, "own", own, l[2:4])
	wantEvents(t, "drained", drained, l[2:4])
	wantTrail(t, a, 9, ev(6, 6))
}

// P17.2

func TestSkip(t *testing.T) {
	l := of(1, 2, 1)
	a := with(t, l...)
	past := 0
	for _, n := range []int{0, 1, 2, 0, 1000, 1 << 40} {
		if !a.Skip(n) {
			t.Fatal("not skipped:", n)
		}
		past += n
		wantTrail(t, a, past, l...) // they are told nowhere, and none that is left goes
	}
	for _, n := range []int{-1, -2, math.MinInt, math.MaxInt, api.MaxPast, api.MaxPast + 1, api.MaxPast - past + 1} {
		if a.Skip(n) {
			t.Fatal("skipped:", n)
		}
		wantTrail(t, a, past, l...)
	}
	wantEvents(t, "Drain", a.Drain(2), l[:2])
	wantTrail(t, a, past+2, l[2])
	if a.Skip(api.MaxPast-past-1) || !a.Skip(api.MaxPast-past-2) || a.Skip(1) || !a.Skip(0) {
		t.Error("the greatest Past is not", api.MaxPast)
	}
	wantTrail(t, a, api.MaxPast, l[2])
}

func TestSkipAtOnce(t *testing.T) {
	for _, n := range []int{api.MaxPast, api.MaxPast - 1} {
		a := audit.New()
		if !a.Skip(n) {
			t.Error("not skipped:", n)
		}
		wantTrail(t, a, n)
	}
	for _, n := range []int{api.MaxPast + 1, math.MaxInt, -api.MaxPast, -1} {
		a := audit.New()
		if a.Skip(n) {
			t.Error("skipped:", n)
		}
		wantTrail(t, a, 0)
	}
}

func TestPastAtItsGreatest(t *testing.T) {
	l := of(1, 2, 1, 2, 1)
	a := with(t, l...)
	a.Skip(api.MaxPast - 3)
	wantEvents(t, "Drain", a.Drain(2), l[:2])
	wantTrail(t, a, api.MaxPast-1, l[2:]...)
	// What is left is drained all the same, but Past is at most MaxPast.
	wantEvents(t, "Drain", a.Drain(2), l[2:4])
	wantTrail(t, a, api.MaxPast, l[4])
	wantEvents(t, "Drain", a.Drain(9), l[4:])
	wantTrail(t, a, api.MaxPast)
	if a.Skip(1) || !a.Skip(0) || !a.Put(ev(3, 3)) {
		t.Error("the trail has ended")
	}
	wantTrail(t, a, api.MaxPast, ev(3, 3))
}

func TestNilTrail(t *testing.T) {
	var a *audit.Trail
	for _, n := range []int{0, 1, -1, 9, api.MaxPast, math.MaxInt, math.MinInt} {
		if a.Put(ev(n, n)) || a.Skip(n) {
			t.Error("a nil trail takes something:", n)
		}
		wantEvents(t, "Own", a.Own(n, 0, n), nil)
		wantEvents(t, "Own", a.Own(1, n, 9), nil)
		wantEvents(t, "Drain", a.Drain(n), nil)
		wantTrail(t, a, 0)
	}
}

// P17.3 and P17.4, and all of P17.1 and P17.2, by random turns.

// counts are how often what happened.
type counts map[string]int

// turn does something to a trail and to its model, and wants the same of both.
func turn(t *testing.T, r *rand.Rand, a *audit.Trail, m *model, n counts) {
	t.Helper()
	switch r.Intn(8) {
	case 0, 1, 2, 7:
		e := someEvent(r)
		m.put(e)
		if !a.Put(e) {
			t.Fatal("not put:", e)
		}
	case 3:
		most := r.Intn(9) - 1
		want := m.drain(most)
		wantEvents(t, "Drain", a.Drain(most), want)
		if len(want) > 1 {
			n["some drained"]++
		}
		if len(want) > 0 && len(m.left) == 0 {
			n["all drained"]++
		}
	case 4:
		by := r.Intn(9) - 2
		if r.Intn(4) == 0 {
			by = api.MaxPast - r.Intn(20)
		}
		want := m.skip(by)
		if got := a.Skip(by); got != want {
			t.Fatalf("Skip(%d) = %v", by, got)
		}
		if want && by > 0 {
			n["skipped"]++
		}
		if !want && by > 0 {
			n["too many to skip"]++
		}
	case 5:
		user, from, most := r.Intn(4), r.Intn(5)-1, r.Intn(5)-1
		want := m.page(user, from, most)
		wantEvents(t, "Own", a.Own(user, from, most), want)
		if len(want) > 1 && from > 0 && len(want) == most {
			n["a page"]++
		}
	case 6:
		wantPages(t, a, r.Intn(4), r.Intn(4)+1)
	}
	if m.past == api.MaxPast {
		n["the greatest Past"]++
	}
}

// wantPages wants a user's own events, page by page, to be all that are left, each once.
func wantPages(t *testing.T, a *audit.Trail, user, most int) {
	t.Helper()
	var pages []api.Event
	for from := 0; ; from += most {
		page := a.Own(user, from, most)
		pages = append(pages, page...)
		if len(page) < most {
			break
		}
	}
	var own []api.Event
	for _, e := range a.Left() {
		if e.User == user {
			own = append(own, e)
		}
	}
	wantEvents(t, "pages", pages, own)
	if len(pages) != a.Count(user) {
		t.Fatalf("the pages have %d, Count is %d", len(pages), a.Count(user))
	}
}

func TestTurns(t *testing.T) {
	r := rand.New(rand.NewSource(1))
	n := counts{}
	for range 500 {
		a, m := audit.New(), &model{}
		for range 120 {
			turn(t, r, a, m, n)
			wantTrail(t, a, m.past, m.left...)
			// All that were put in are drained or left, in order.
			wantEvents(t, "all", slices.Concat(m.drained, a.Left()), m.all)
		}
	}
	for _, what := range []string{"some drained", "all drained", "skipped", "too many to skip", "a page", "the greatest Past"} {
		if n[what] < 500 {
			t.Error("too seldom:", what, n[what])
		}
	}
}

func TestDrainedPageByPage(t *testing.T) {
	r := rand.New(rand.NewSource(2))
	for _, page := range []int{1, 2, 3, 64, 999, 1000, 1001} {
		a, all := audit.New(), []api.Event(nil)
		for range 1000 {
			e := someEvent(r)
			all = append(all, e)
			a.Put(e)
		}
		var got []api.Event
		for a.Len() > 0 {
			got = append(got, a.Drain(page)...)
			wantEvents(t, "left", a.Left(), all[len(got):])
		}
		wantEvents(t, "drained", got, all)
		wantTrail(t, a, 1000)
	}
}

// P17.5

func TestWhatOthersDo(t *testing.T) {
	r := rand.New(rand.NewSource(3))
	for range 300 {
		a, alone := audit.New(), audit.New()
		for range 60 {
			switch r.Intn(8) {
			case 0, 1:
				e := someEvent(r)
				e.User = 1
				a.Put(e)
				alone.Put(e)
			case 2:
				a.Skip(r.Intn(5))
			case 3:
				a.Own(2, 0, 9)
				a.Own(2, 1, 1)
				a.Left()
				a.Count(2)
			default:
				e := someEvent(r)
				e.User = []int{0, 2, 3, api.Nobody}[r.Intn(4)]
				a.Put(e)
			}
			if a.Count(1) != alone.Count(1) {
				t.Fatalf("others turn %d to %d", alone.Count(1), a.Count(1))
			}
			from, most := r.Intn(6), r.Intn(6)
			wantEvents(t, "Own", a.Own(1, from, most), alone.Own(1, from, most))
		}
		// To drain takes of one's own just those that are drained.
		own := alone.Left()
		var mine []api.Event
		for _, e := range a.Drain(r.Intn(40)) {
			if e.User == 1 {
				mine = append(mine, e)
			}
		}
		wantEvents(t, "drained and left", append(mine, a.Own(1, 0, math.MaxInt)...), own)
	}
}

// P1

func TestWildArguments(t *testing.T) {
	numbers := []int{0, 1, 2, -1, 9, api.Nobody, api.MaxTick, api.MaxPast, api.MaxPast + 1, math.MinInt, math.MaxInt}
	for _, x := range numbers {
		for _, y := range numbers {
			for _, z := range numbers {
				for _, a := range []*audit.Trail{nil, {}, audit.New(), with(t, of(1, 2, 1, 3)...)} {
					a.Skip(x)
					a.Put(api.Event{User: x, Op: y, Status: z, Tick: x})
					a.Own(x, y, z)
					a.Drain(y)
					a.Skip(z)
					a.Drain(z)
					a.Left()
					a.Len()
					a.Count(x)
					if p := a.Past(); p < 0 || p > api.MaxPast {
						t.Fatal("Past is", p)
					}
				}
			}
		}
	}
}
