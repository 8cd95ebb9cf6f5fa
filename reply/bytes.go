package reply

import (
	"paravent/api"
	"paravent/num"
)

// How many bytes there are of what answers have.
const (
	headLen   = 3
	secretLen = 8
	spotLen   = 5
	boxLen    = 8
	seenLen   = 11
	eventLen  = 8
)

// parts are how many bytes an operation's answer has once, and for each item.
func parts(op int) (once, each int) {
	switch op {
	case api.OpMint, api.OpAttenuate:
		return secretLen, 0
	case api.OpWhere:
		return spotLen, 0
	case api.OpPublish:
		return boxLen, 0
	case api.OpWindow, api.OpNear, api.OpCloaks, api.OpNearCloaks:
		return 0, seenLen
	case api.OpTrail, api.OpDrain:
		return 0, eventLen
	}
	return 0, 0
}

// write is the bytes of an answer that fits, up to its last item. What a refused one has not is 0 there as it is behind.
func write(op int, a api.Answer) []byte {
	b := put(1, a.Status, op, len(a.Seen)+len(a.Events))
	switch op {
	case api.OpMint, api.OpAttenuate:
		b = append(b, put(secretLen, a.Secret)...)
	case api.OpWhere:
		b = append(b, put(2, a.Record.At.X, a.Record.At.Y)...)
		b = append(b, put(1, a.Record.Label)...)
	case api.OpPublish:
		b = append(b, putBox(a.Box)...)
	}
	for _, s := range a.Seen {
		b = append(b, put(2, s.ID)...)
		b = append(b, put(1, s.Level)...)
		b = append(b, putBox(s.Box)...)
	}
	for _, e := range a.Events {
		b = append(b, put(2, e.User)...)
		b = append(b, put(1, e.Op, e.Status)...)
		b = append(b, put(4, e.Tick)...)
	}
	return b
}

// put is the bytes of a row of numbers, so many each.
func put[N int | uint64](wide int, row ...N) []byte {
	var l []byte
	for _, n := range row {
		b, _ := num.Put(uint64(n), wide)
		l = append(l, b...)
	}
	return l
}

// putBox is a rectangle's bytes.
func putBox(r api.Rect) []byte {
	return put(2, r.X0, r.Y0, r.X1, r.Y1)
}

// read is what the bytes of an operation's answer seem to say, which need not fit.
func read(op int, b []byte) api.Answer {
	var a api.Answer
	var same, items int
	l := rest(b)
	l.numbers(1, &a.Status, &same, &items)
	switch op {
	case api.OpMint, api.OpAttenuate:
		a.Secret, _ = num.Get(l.cut(secretLen))
	case api.OpWhere:
		l.numbers(2, &a.Record.At.X, &a.Record.At.Y)
		l.numbers(1, &a.Record.Label)
	case api.OpPublish:
		a.Box = l.box()
	case api.OpWindow, api.OpNear, api.OpCloaks, api.OpNearCloaks:
		for range items {
			a.Seen = append(a.Seen, l.cut(seenLen).seen())
		}
	case api.OpTrail, api.OpDrain:
		for range items {
			a.Events = append(a.Events, l.cut(eventLen).event())
		}
	}
	return a
}

// rest is bytes that are still to be read.
type rest []byte

// cut takes the first bytes, or those that are left. The third index keeps them apart from those behind them.
func (l *rest) cut(n int) rest {
	n = min(n, len(*l))
	first := (*l)[:n:n]
	*l = (*l)[n:]
	return first
}

// numbers takes numbers of so many bytes each.
func (l *rest) numbers(wide int, row ...*int) {
	for _, into := range row {
		n, _ := num.Get(l.cut(wide))
		*into = int(n)
	}
}

// box takes a rectangle.
func (l *rest) box() api.Rect {
	var r api.Rect
	l.numbers(2, &r.X0, &r.Y0, &r.X1, &r.Y1)
	return r
}

// seen is what an item tells of a shape.
func (l rest) seen() api.Seen {
	var s api.Seen
	l.numbers(2, &s.ID)
	l.numbers(1, &s.Level)
	s.Box = l.box()
	return s
}

// event is what an item tells of an event.
func (l rest) event() api.Event {
	var e api.Event
	l.numbers(2, &e.User)
	l.numbers(1, &e.Op, &e.Status)
	l.numbers(4, &e.Tick)
	return e
}
