package roster_test

import (
	"math"
	"math/rand"
	"slices"
	"testing"

	"paravent/api"
	"paravent/roster"
)

// wantErr tells an error that is not the one wanted.
func wantErr(t *testing.T, what string, got, want api.Errno) {
	t.Helper()
	if got != want {
		t.Fatalf("%s: error %d, want %d", what, got, want)
	}
}

// wantMembers holds all that a roster tells against the members that it is to have.
func wantMembers(t *testing.T, s *roster.Roster, want ...api.Member) {
	t.Helper()
	if got := s.All(); !slices.Equal(got, want) {
		t.Fatalf("there are %+v, not %+v", got, want)
	}
	if n := s.Len(); n != len(want) {
		t.Fatalf("there are %d, not %d", n, len(want))
	}
	for _, m := range want {
		wantMember(t, s, m)
	}
	for _, user := range []int{0, 1, 2, 3, 4, 5, 7, 65533, 65534, 65535, 65536, -1, math.MinInt, math.MaxInt} {
		if model(want).at(user) < 0 {
			wantNone(t, s, user)
		}
	}
}

// wantMember tells of a member that is not as wanted.
func wantMember(t *testing.T, s *roster.Roster, want api.Member) {
	t.Helper()
	if m, ok := s.Find(want.User); !ok || m != want {
		t.Fatalf("Find(%d) = %+v, %v, not %+v", want.User, m, ok, want)
	}
}

// wantNone tells of a member that should not be there.
func wantNone(t *testing.T, s *roster.Roster, user int) {
	t.Helper()
	if m, ok := s.Find(user); ok || m != (api.Member{}) {
		t.Fatalf("Find(%d) = %+v, %v", user, m, ok)
	}
}

// with is a roster in which members are enrolled.
func with(t *testing.T, l ...api.Member) *roster.Roster {
	t.Helper()
	s := roster.New()
	for _, m := range l {
		wantErr(t, "Enrol", s.Enrol(m), api.OK)
	}
	return s
}

// three are some members, by their users.
func three() []api.Member {
	return []api.Member{{User: 1, Role: 2, Tier: 3, Quota: 4}, {User: 7, Quota: 1}, {User: 65534, Role: 7, Tier: 7, Quota: 65535}}
}

// and0 are the member 0 and others.
func and0(l ...api.Member) []api.Member {
	return append([]api.Member{zero()}, l...)
}

func TestExample(t *testing.T) {
	s := with(t, api.Member{User: 7, Quota: 1})
	wantErr(t, "Spend", s.Spend(7), api.OK)
	wantErr(t, "Spend", s.Spend(7), api.ErrSpent)
	for range 3 {
		wantErr(t, "Spend", s.Spend(0), api.OK)
	}
	wantMembers(t, s, zero(), api.Member{User: 7})
}

// P18.1

func TestRight(t *testing.T) {
	for _, m := range append(three(), api.Member{User: 1}, api.Member{User: 65534}, api.Member{User: 7, Role: 7}, api.Member{User: 7, Tier: 7}, api.Member{User: 7, Quota: 65535}) {
		if !roster.Right(m) {
			t.Errorf("%+v may not be enrolled", m)
		}
	}
	for _, m := range append(badMembers(), zero(), api.Member{}) {
		if roster.Right(m) {
			t.Errorf("%+v may be enrolled", m)
		}
	}
	for n := -2; n < 70000; n++ {
		if got, want := roster.Right(api.Member{User: n, Quota: 5}), n >= 1 && n <= 65534; got != want {
			t.Errorf("User %d: %v", n, got)
		}
		if got, want := roster.Right(api.Member{User: 5, Quota: n}), n >= 0 && n <= 65535; got != want {
			t.Errorf("Quota %d: %v", n, got)
		}
		if got, want := roster.Right(api.Member{User: 5, Role: n}), n >= 0 && n <= 7; got != want {
			t.Errorf("Role %d: %v", n, got)
		}
		if got, want := roster.Right(api.Member{User: 5, Tier: n}), n >= 0 && n <= 7; got != want {
			t.Errorf("Tier %d: %v", n, got)
		}
	}
}

func TestNew(t *testing.T) {
	wantMembers(t, roster.New(), zero())
	a, b := roster.New(), roster.New()
	wantErr(t, "Enrol", a.Enrol(three()[0]), api.OK)
	wantMembers(t, a, and0(three()[0])...)
	wantMembers(t, b, zero())
	// The member 0 is always there, also in a roster that New did not make.
	var bare roster.Roster
	wantMembers(t, &bare, zero())
	wantErr(t, "Dismiss", bare.Dismiss(7), api.ErrNone)
	wantErr(t, "Spend", bare.Spend(0), api.OK)
	wantErr(t, "Enrol", bare.Enrol(three()[1]), api.OK)
	wantMembers(t, &bare, and0(three()[1])...)
}

func TestEnrol(t *testing.T) {
	for _, order := range [][]int{{0, 1, 2}, {0, 2, 1}, {1, 0, 2}, {1, 2, 0}, {2, 0, 1}, {2, 1, 0}} {
		s := roster.New()
		for _, at := range order {
			wantErr(t, "Enrol", s.Enrol(three()[at]), api.OK)
			wantMember(t, s, three()[at])
		}
		wantMembers(t, s, and0(three()...)...) // by their Users, in whatever order they came
	}
}

func TestEnrolErrors(t *testing.T) {
	s := with(t, three()...)
	for _, m := range append(badMembers(), zero(), api.Member{}) {
		wantErr(t, "Enrol", s.Enrol(m), api.ErrArg) // of 7 also ErrTwice would apply
		wantErr(t, "Enrol", roster.New().Enrol(m), api.ErrArg)
	}
	for _, m := range three() {
		wantErr(t, "Enrol", s.Enrol(m), api.ErrTwice)
		wantErr(t, "Enrol", s.Enrol(api.Member{User: m.User, Role: 5, Tier: 5, Quota: 5}), api.ErrTwice)
	}
	wantMembers(t, s, and0(three()...)...)
}

func TestDismiss(t *testing.T) {
	for at, m := range three() {
		s := with(t, three()...)
		left := and0(slices.Delete(three(), at, at+1)...)
		wantErr(t, "Dismiss", s.Dismiss(m.User), api.OK)
		wantMembers(t, s, left...)
		wantErr(t, "Dismiss", s.Dismiss(m.User), api.ErrNone)
		wantErr(t, "Spend", s.Spend(m.User), api.ErrNone)
		wantErr(t, "Quota", s.Quota(m.User, 1), api.ErrNone)
		wantErr(t, "Profile", s.Profile(m.User, api.Profile{K: 1}), api.ErrNone)
		wantMembers(t, s, left...)
		// Enrolled anew it is as it is enrolled then.
		m = api.Member{User: m.User, Role: 6, Quota: 9}
		wantErr(t, "Enrol", s.Enrol(m), api.OK)
		wantMember(t, s, m)
	}
	s := with(t, three()...)
	wantErr(t, "Dismiss", s.Dismiss(0), api.ErrArg)
	wantErr(t, "Dismiss", roster.New().Dismiss(0), api.ErrArg)
	for _, user := range []int{2, 6, 8, 65533, 65535, 65536, -1, -7, math.MinInt, math.MaxInt} {
		wantErr(t, "Dismiss", s.Dismiss(user), api.ErrNone)
		wantErr(t, "Dismiss", roster.New().Dismiss(user), api.ErrNone)
	}
	wantMembers(t, s, and0(three()...)...)
}

func TestDismissedWithAProfileIsEnrolledWithoutOne(t *testing.T) {
	s := with(t, three()...)
	wantErr(t, "Profile", s.Profile(7, api.Profile{K: 3, Area: 5}), api.OK)
	wantErr(t, "Spend", s.Spend(7), api.OK)
	wantErr(t, "Dismiss", s.Dismiss(7), api.OK)
	wantErr(t, "Enrol", s.Enrol(three()[1]), api.OK)
	wantMembers(t, s, and0(three()...)...)
}

// P18.2

func TestProfile(t *testing.T) {
	s := with(t, three()...)
	want := three()
	for _, f := range []api.Profile{{K: 1}, {K: 65535}, {K: 2, Area: 1}, {K: 2, Area: 1 << 32}, {K: 9, Area: math.MaxUint64}, {K: 1}} {
		wantErr(t, "Profile", s.Profile(7, f), api.OK)
		want[1].Profile = f
		wantMembers(t, s, and0(want...)...)
		for _, bad := range []api.Profile{{}, {Area: 5}, {K: -1}, {K: 65536}, {K: 65536, Area: 5}, {K: math.MinInt}, {K: math.MaxInt}} {
			wantErr(t, "Profile", s.Profile(7, bad), api.ErrArg)
			wantErr(t, "Profile", s.Profile(0, bad), api.ErrArg)
			wantErr(t, "Profile", s.Profile(8, bad), api.ErrNone)
		}
		wantErr(t, "Profile", s.Profile(0, f), api.ErrArg)
		for _, user := range []int{2, 6, 8, 65533, 65535, -1, math.MinInt, math.MaxInt} {
			wantErr(t, "Profile", s.Profile(user, f), api.ErrNone)
		}
		wantMembers(t, s, and0(want...)...)
	}
}

func TestQuota(t *testing.T) {
	s := with(t, three()...)
	want := three()
	wantErr(t, "Profile", s.Profile(1, api.Profile{K: 3, Area: 5}), api.OK)
	want[0].Profile = api.Profile{K: 3, Area: 5}
	for _, n := range []int{0, 1, 2, 65534, 65535, 0, 5} {
		wantErr(t, "Quota", s.Quota(1, n), api.OK)
		want[0].Quota = n
		wantMembers(t, s, and0(want...)...)
		for _, bad := range []int{-1, 65536, math.MinInt, math.MaxInt} {
			wantErr(t, "Quota", s.Quota(1, bad), api.ErrArg)
			wantErr(t, "Quota", s.Quota(0, bad), api.ErrArg)
			wantErr(t, "Quota", s.Quota(8, bad), api.ErrNone)
		}
		wantErr(t, "Quota", s.Quota(0, n), api.ErrArg)
		for _, user := range []int{2, 6, 8, 65533, 65535, -1, math.MinInt, math.MaxInt} {
			wantErr(t, "Quota", s.Quota(user, n), api.ErrNone)
		}
		wantMembers(t, s, and0(want...)...)
	}
}

func TestSpend(t *testing.T) {
	s := with(t, three()...)
	want := three()
	wantErr(t, "Profile", s.Profile(1, api.Profile{K: 3, Area: 5}), api.OK)
	want[0].Profile = api.Profile{K: 3, Area: 5}
	for n := 3; n >= 0; n-- {
		wantErr(t, "Spend", s.Spend(1), api.OK)
		want[0].Quota = n
		wantMembers(t, s, and0(want...)...)
	}
	for range 3 {
		wantErr(t, "Spend", s.Spend(1), api.ErrSpent)
		wantMembers(t, s, and0(want...)...)
	}
	wantErr(t, "Quota", s.Quota(1, 1), api.OK)
	wantErr(t, "Spend", s.Spend(1), api.OK)
	wantErr(t, "Spend", s.Spend(1), api.ErrSpent)
	wantErr(t, "Spend", s.Spend(65534), api.OK)
	want[2].Quota = 65534
	wantMembers(t, s, and0(want...)...)
	for _, user := range []int{2, 6, 8, 65533, 65535, -1, math.MinInt, math.MaxInt} {
		wantErr(t, "Spend", s.Spend(user), api.ErrNone)
	}
	wantMembers(t, s, and0(want...)...)
}

func TestTheMember0IsNeverSpent(t *testing.T) {
	s := with(t, three()...)
	for range 70000 {
		if s.Spend(0) != api.OK {
			t.Fatal("the member 0 is spent")
		}
	}
	wantMembers(t, s, and0(three()...)...)
}

// P18.3

func TestFindAndAll(t *testing.T) {
	var want []api.Member
	s := roster.New()
	r := rand.New(rand.NewSource(1))
	for _, at := range r.Perm(65534) {
		m := api.Member{User: at + 1, Role: at % 8, Tier: at / 8 % 8, Quota: at}
		wantErr(t, "Enrol", s.Enrol(m), api.OK)
		want = append(want, m)
	}
	slices.SortFunc(want, func(a, b api.Member) int { return a.User - b.User })
	wantMembers(t, s, and0(want...)...) // as many as there may be
	for _, m := range want {
		if m.User%3 > 0 {
			wantErr(t, "Dismiss", s.Dismiss(m.User), api.OK)
		}
	}
	want = slices.DeleteFunc(want, func(m api.Member) bool { return m.User%3 > 0 })
	wantMembers(t, s, and0(want...)...)
}

func TestNothingIsShared(t *testing.T) {
	s := with(t, three()...)
	all, again := s.All(), s.All()
	for i := range again {
		again[i] = api.Member{User: 99, Quota: -5}
	}
	_ = append(again, api.Member{User: 98})
	wantMembers(t, s, and0(three()...)...)
	wantErr(t, "Spend", s.Spend(7), api.OK)
	wantErr(t, "Dismiss", s.Dismiss(1), api.OK)
	if !slices.Equal(all, and0(three()...)) {
		t.Error("what was told has become", all)
	}
}

func TestNilRoster(t *testing.T) {
	var s *roster.Roster
	for _, m := range append(badMembers(), three()...) {
		wantErr(t, "Enrol", s.Enrol(m), api.ErrNil)
		wantErr(t, "Profile", s.Profile(m.User, m.Profile), api.ErrNil)
	}
	for _, user := range []int{0, 1, 7, 65535, -1, math.MinInt, math.MaxInt} {
		wantErr(t, "Dismiss", s.Dismiss(user), api.ErrNil)
		wantErr(t, "Profile", s.Profile(user, api.Profile{K: 1}), api.ErrNil)
		wantErr(t, "Quota", s.Quota(user, user), api.ErrNil)
		wantErr(t, "Quota", s.Quota(user, 1), api.ErrNil)
		wantErr(t, "Spend", s.Spend(user), api.ErrNil)
	}
	wantMembers(t, s)
}

// All of P18.1 to P18.3, and P18.5, by random turns.

// event is a call and its error.
type event struct {
	call string
	err  api.Errno
}

// counts are how often what happened.
type counts map[event]int

// turn does something with a member to a roster and to its model, and wants the same of both; it answers whose it was.
func turn(t *testing.T, r *rand.Rand, s *roster.Roster, l *model, n counts) int {
	t.Helper()
	user := someUser(r)
	var call string
	var got, want api.Errno
	switch r.Intn(6) {
	case 0, 1:
		m := someMember(r)
		if r.Intn(6) == 0 {
			m = badMembers()[r.Intn(len(badMembers()))]
		}
		user, call, got = m.User, "Enrol", s.Enrol(m)
		*l, want = l.enrol(m)
	case 2:
		call, got = "Dismiss", s.Dismiss(user)
		*l, want = l.dismiss(user)
	case 3:
		f := someProfile(r)
		call, got, want = "Profile", s.Profile(user, f), l.profile(user, f)
	case 4:
		q := someQuota(r)
		call, got, want = "Quota", s.Quota(user, q), l.quota(user, q)
	case 5:
		call, got, want = "Spend", s.Spend(user), l.spend(user)
	}
	wantErr(t, call, got, want)
	n[event{call, want}]++
	return user
}

func TestTurns(t *testing.T) {
	r := rand.New(rand.NewSource(2))
	n := counts{}
	for range 800 {
		s, l := roster.New(), model{zero()}
		for range 80 {
			before := s.All()
			user := turn(t, r, s, &l, n)
			wantMembers(t, s, l...)
			// P18.5: those of others are as they were.
			others := func(m api.Member) bool { return m.User == user }
			if got, want := slices.DeleteFunc(s.All(), others), slices.DeleteFunc(before, others); !slices.Equal(got, want) {
				t.Fatalf("what was done with %d turns %v to %v", user, want, got)
			}
		}
	}
	for call, errs := range map[string][]api.Errno{
		"Enrol": {api.OK, api.ErrArg, api.ErrTwice}, "Dismiss": {api.OK, api.ErrArg, api.ErrNone},
		"Profile": {api.OK, api.ErrNone, api.ErrArg}, "Quota": {api.OK, api.ErrNone, api.ErrArg}, "Spend": {api.OK, api.ErrNone, api.ErrSpent},
	} {
		for _, err := range errs {
			if times := n[event{call, err}]; times < 500 {
				t.Error("too seldom:", call, err, times)
			}
		}
	}
}

// P18.4

func TestSpendsAsOftenAsTheQuota(t *testing.T) {
	for _, n := range []int{0, 1, 2, 3, 10, 65534, 65535} {
		for _, enrolled := range []int{n, 5} {
			s := with(t, api.Member{User: 3, Quota: 2}, api.Member{User: 4, Quota: enrolled})
			if enrolled != n {
				wantErr(t, "Quota", s.Quota(4, n), api.OK)
			}
			spent := 0
			for s.Spend(4) == api.OK {
				spent++
				s.Spend(0)
				s.Spend(3) // what others spend is not one's own
			}
			if spent != n {
				t.Errorf("with the Quota %d spent %d times", n, spent)
			}
			wantErr(t, "Spend", s.Spend(4), api.ErrSpent)
			wantMember(t, s, api.Member{User: 4})
		}
	}
}

// P1

func TestWildArguments(t *testing.T) {
	numbers := []int{0, 1, 7, 8, -1, 65534, 65535, 65536, math.MinInt, math.MaxInt}
	for _, x := range numbers {
		for _, y := range numbers {
			for _, s := range []*roster.Roster{nil, {}, roster.New(), with(t, three()...)} {
				for _, area := range []uint64{0, 1, math.MaxUint64} {
					f := api.Profile{K: y, Area: area}
					roster.Right(api.Member{User: x, Role: y, Tier: y, Quota: y, Profile: f})
					s.Enrol(api.Member{User: x, Role: y, Tier: y, Quota: y, Profile: f})
					s.Enrol(api.Member{User: x, Quota: y})
					s.Profile(x, f)
				}
				s.Quota(x, y)
				s.Spend(x)
				s.Find(x)
				s.All()
				s.Dismiss(x)
				s.Len()
			}
		}
	}
}
