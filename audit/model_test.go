package audit_test

import (
	"math/rand"

	"paravent/api"
)

// A model is the document's words: the events that were put in, those of them that were drained and that are left, and how many count as drained.
type model struct {
	all, drained, left []api.Event
	past               int
}

func (m *model) put(e api.Event) {
	m.all = append(m.all, e)
	m.left = append(m.left, e)
}

// own are a user's own events.
func (m model) own(user int) []api.Event {
	var l []api.Event
	for _, e := range m.left {
		if e.User == user {
			l = append(l, e)
		}
	}
	return l
}

// page are a user's own events from a number on, at most so many.
func (m model) page(user, from, most int) []api.Event {
	var l []api.Event
	for i, e := range m.own(user) {
		if from >= 0 && i >= from && i-from < most {
			l = append(l, e)
		}
	}
	return l
}

// drain drains one event after the other.
func (m *model) drain(most int) []api.Event {
	var l []api.Event
	for len(m.left) > 0 && len(l) < most {
		l = append(l, m.left[0])
		m.left = m.left[1:]
		if m.past < 1<<62-1 {
			m.past++
		}
	}
	m.drained = append(m.drained, l...)
	return l
}

// skip counts some as drained. What it adds does not pass what a uint64 holds.
func (m *model) skip(n int) bool {
	if n < 0 || uint64(m.past)+uint64(n) > 1<<62-1 {
		return false
	}
	m.past += n
	return true
}

// someEvent is an event of one of a few users.
func someEvent(r *rand.Rand) api.Event {
	return api.Event{User: r.Intn(3), Op: r.Intn(19) + 1, Status: r.Intn(13), Tick: r.Intn(1000)}
}
