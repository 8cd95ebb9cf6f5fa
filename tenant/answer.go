package tenant

import (
	"paravent/api"
)

// change gives an answer something beside its status.
type change func(*api.Answer)

// answer is the answer of a status. Only one that is StOK has anything beside it.
func answer(status int, changes ...change) api.Answer {
	a := api.Answer{Status: status}
	if status == api.StOK {
		for _, c := range changes {
			c(&a)
		}
	}
	return a
}

// ended is the answer to what ended with an error, or with none.
func ended(err api.Errno, changes ...change) api.Answer {
	return answer(status(err), changes...)
}

// status is an error's status.
func status(err api.Errno) int {
	switch err {
	case api.OK:
		return api.StOK
	case api.ErrNone:
		return api.StNone
	case api.ErrTwice:
		return api.StClash
	case api.ErrFull:
		return api.StFull
	}
	return api.StArg
}

// secret tells a secret.
func secret(s uint64) change {
	return func(a *api.Answer) { a.Secret = s }
}

// record tells a record, but not whose it is.
func record(r api.Record) change {
	r.ID = 0
	return func(a *api.Answer) { a.Record = r }
}

// box tells a rectangle.
func box(r api.Rect) change {
	return func(a *api.Answer) { a.Box = r }
}

// seen tells what is seen.
func seen(l []api.Seen) change {
	return func(a *api.Answer) { a.Seen = l }
}

// events tells events.
func events(l []api.Event) change {
	return func(a *api.Answer) { a.Events = l }
}
