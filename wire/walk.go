package wire

import (
	"paravent/api"
	"paravent/geom"
	"paravent/num"
)

// What a walk does with the fields.
const (
	counting = iota
	writing
	reading
)

// walk goes over the fields of a request, in the order of their bytes.
type walk struct {
	does  int
	count int
	bytes []byte // those that are written, or those that are still to be read
	bad   bool   // something was read that may not be
}

// head goes over what every request has.
func (w *walk) head(r *api.Request) {
	w.numbers(1, &r.Op, &r.Tenant)
	w.numbers(2, &r.User)
	w.whole(8, &r.Secret)
	w.upTo(api.MaxM, &r.M)
}

// fields goes over what the request's operation has, if there is such an operation.
func (w *walk) fields(r *api.Request) bool {
	switch r.Op {
	case api.OpEnrol:
		w.numbers(2, &r.Whom)
		w.upTo(api.MaxRole, &r.Role)
		w.upTo(api.MaxTier, &r.Tier)
		w.numbers(2, &r.Quota)
	case api.OpDismiss:
		w.numbers(2, &r.Whom)
	case api.OpPolicy:
		w.text(&r.Text)
	case api.OpMint:
		w.numbers(2, &r.Whom)
		w.upTo(api.MayAll, &r.Rights)
		w.numbers(4, &r.Until)
	case api.OpAttenuate:
		w.upTo(api.MayAll, &r.Rights)
		w.upTo(api.MaxLevel, &r.Zoom)
		w.box(&r.Box)
		w.numbers(4, &r.Until)
	case api.OpRevoke:
		w.whole(8, &r.Other)
	case api.OpProfile:
		w.numbers(2, &r.Profile.K)
		w.whole(8, &r.Profile.Area)
	case api.OpReport:
		w.numbers(2, &r.At.X, &r.At.Y)
		w.upTo(api.MaxLabel, &r.Label)
	case api.OpWindow, api.OpCloaks:
		w.box(&r.Box)
	case api.OpNear, api.OpNearCloaks:
		w.numbers(2, &r.At.X, &r.At.Y)
	case api.OpTrail:
		w.numbers(2, &r.From)
	case api.OpQuota:
		w.numbers(2, &r.Whom, &r.Quota)
	case api.OpRemove, api.OpPublish, api.OpWithdraw, api.OpWhere, api.OpDrain:
	default:
		return false
	}
	return true
}

// box goes over a rectangle.
func (w *walk) box(r *api.Rect) {
	w.numbers(2, &r.X0, &r.Y0, &r.X1, &r.Y1)
	w.bad = w.bad || !geom.Right(*r)
}

// text goes over a text, which has all bytes that are left.
func (w *walk) text(s *string) {
	switch w.does {
	case writing:
		// A longer one, of which not all is written, is not read as it was.
		w.bytes = append(w.bytes, (*s)[:min(len(*s), api.MaxSource)]...)
	case reading:
		*s = string(w.cut(len(w.bytes)))
	}
}

// upTo goes over numbers of a byte each that are at most so great.
func (w *walk) upTo(most int, l ...*int) {
	w.numbers(1, l...)
	for _, n := range l {
		w.bad = w.bad || *n > most
	}
}

// numbers goes over numbers of so many bytes each.
func (w *walk) numbers(wide int, l ...*int) {
	for _, n := range l {
		m := uint64(*n)
		w.whole(wide, &m)
		*n = int(m)
	}
}

// whole goes over a number of so many bytes.
func (w *walk) whole(wide int, n *uint64) {
	switch w.does {
	case counting:
		w.count += wide
	case writing:
		b, _ := num.Put(*n, wide) // one that needs more bytes has none, and is not read as it was
		w.bytes = append(w.bytes, b...)
	case reading:
		*n, _ = num.Get(w.cut(wide))
	}
}

// cut takes the first bytes of those that are still to be read.
func (w *walk) cut(n int) []byte {
	first := w.bytes[:n]
	w.bytes = w.bytes[n:]
	return first
}
