package roster_test

import (
	"math"
	"math/rand"

	"paravent/api"
)

// A model is the document's words: all members, by their Users.
type model []api.Member

// zero is the member 0.
func zero() api.Member { return api.Member{Quota: 65535} }

// mayBe tells whether a member may be enrolled.
func mayBe(m api.Member) bool {
	return m.User >= 1 && m.User <= 65534 && m.Role >= 0 && m.Role <= 7 && m.Tier >= 0 && m.Tier <= 7 &&
		m.Quota >= 0 && m.Quota <= 65535 && m.Profile.K == 0 && m.Profile.Area == 0
}

// at is the place of a user's member, or -1.
func (l model) at(user int) int {
	for i, m := range l {
		if m.User == user {
			return i
		}
	}
	return -1
}

// enrol are these and another one, ahead of the first one of a greater User, or the error.
func (l model) enrol(m api.Member) (model, api.Errno) {
	if !mayBe(m) {
		return l, api.ErrArg
	}
	if l.at(m.User) >= 0 {
		return l, api.ErrTwice
	}
	var next model
	for _, one := range l {
		if one.User < m.User {
			next = append(next, one)
		}
	}
	next = append(next, m)
	for _, one := range l {
		if one.User > m.User {
			next = append(next, one)
		}
	}
	return next, api.OK
}

// dismiss are these without a user's, or the error.
func (l model) dismiss(user int) (model, api.Errno) {
	if user == 0 {
		return l, api.ErrArg
	}
	if l.at(user) < 0 {
		return l, api.ErrNone
	}
	var next model
	for _, one := range l {
		if one.User != user {
			next = append(next, one)
		}
	}
	return next, api.OK
}

// profile, quota and spend change a member, or tell the error.

func (l model) profile(user int, f api.Profile) api.Errno {
	at := l.at(user)
	switch {
	case at < 0:
		return api.ErrNone
	case user == 0 || f.K < 1 || f.K > 65535:
		return api.ErrArg
	}
	l[at].Profile = f
	return api.OK
}

func (l model) quota(user, n int) api.Errno {
	at := l.at(user)
	switch {
	case at < 0:
		return api.ErrNone
	case user == 0 || n < 0 || n > 65535:
		return api.ErrArg
	}
	l[at].Quota = n
	return api.OK
}

func (l model) spend(user int) api.Errno {
	at := l.at(user)
	switch {
	case at < 0:
		return api.ErrNone
	case user == 0:
		return api.OK
	case l[at].Quota == 0:
		return api.ErrSpent
	}
	l[at].Quota--
	return api.OK
}

// badMembers are such as may not be enrolled, for one reason each.
func badMembers() []api.Member {
	var l []api.Member
	for _, n := range []int{math.MinInt, -1, 0, 65535, 65536, math.MaxInt} {
		l = append(l, api.Member{User: n, Role: 1, Tier: 1, Quota: 1})
	}
	for _, n := range []int{math.MinInt, -1, 8, math.MaxInt} {
		l = append(l, api.Member{User: 7, Role: n, Tier: 1, Quota: 1}, api.Member{User: 7, Role: 1, Tier: n, Quota: 1})
	}
	for _, n := range []int{math.MinInt, -1, 65536, math.MaxInt} {
		l = append(l, api.Member{User: 7, Role: 1, Tier: 1, Quota: n})
	}
	for _, f := range []api.Profile{{K: 1}, {K: -1}, {Area: 1}, {K: 5, Area: 25}, {Area: math.MaxUint64}, {K: 65536}, {K: math.MinInt}} {
		l = append(l, api.Member{User: 7, Role: 1, Tier: 1, Quota: 1, Profile: f})
	}
	return l
}

// someUser is one of a few.
func someUser(r *rand.Rand) int {
	return []int{0, 1, 2, 3, 4, 65533, 65534}[r.Intn(7)]
}

// someMember is a member that may be enrolled, with a small Quota or a great one, now and then the member 0.
func someMember(r *rand.Rand) api.Member {
	return api.Member{User: someUser(r), Role: r.Intn(8), Tier: r.Intn(8), Quota: []int{0, 1, 2, 65535}[r.Intn(4)]}
}

// someProfile is a profile, which often may be.
func someProfile(r *rand.Rand) api.Profile {
	return api.Profile{K: []int{1, 2, 65535, 0, 65536, -1}[r.Intn(6)], Area: []uint64{0, 1, 1 << 32, math.MaxUint64}[r.Intn(4)]}
}

// someQuota is a number for a Quota, which often may be.
func someQuota(r *rand.Rand) int {
	return []int{0, 1, 2, 3, 65534, 65535, 65536, -1}[r.Intn(8)]
}
