package server

import (
	"paravent/api"
	"paravent/reply"
	"paravent/wire"
)

// Pick picks a connection.
func (s *Server) Pick(conn int, draw uint64) ([]byte, bool) {
	return s.conn(conn).picked(pick{s, draw}.answer)
}

// picked takes the frame that is ready, if there is one, and puts what it is answered behind all that was answered before.
func (c *connection) picked(answer func(body []byte, kind int) []byte) ([]byte, bool) {
	body, kind := c.in.Next()
	if kind == api.FrameNone {
		return nil, false
	}
	b := answer(body, kind)
	c.out = append(c.out, b...)
	return b, true
}

// pick is a server that answers a frame, with a draw.
type pick struct {
	*Server
	draw uint64
}

// answer is the bytes that answer a frame.
func (p pick) answer(body []byte, kind int) []byte {
	if kind == api.FrameOver {
		return p.fault(api.StOver)
	}
	r, err := wire.Decode(body)
	if err != api.OK {
		return p.fault(api.StBad)
	}
	b, _ := reply.Encode(r.Op, r.M, p.do(r)) // what is read may be, and what it is answered fits it
	return b
}

// fault is the bytes that answer what is no request.
func (p pick) fault(status int) []byte {
	p.stray(0, status)
	return reply.Fault(status)
}

// do is the answer to a request. At the greatest tick, behind which the clock can't go, no tenant is asked any more.
func (p pick) do(r api.Request) api.Answer {
	t := p.tenant(r.Tenant)
	switch {
	case p.now == api.MaxTick:
		return p.refused(r, api.StLate)
	case t == nil:
		return p.refused(r, api.StUnknown)
	}
	return t.Do(r, p.draw, p.now)
}

// refused is the answer to a request that no tenant does.
func (p pick) refused(r api.Request, status int) api.Answer {
	p.stray(r.Op, status)
	return api.Answer{Status: status}
}

// stray puts an event that is no tenant's behind the others. Who asks is not looked at by then, so it is Nobody's.
func (p pick) stray(op, status int) {
	p.strays = append(p.strays, api.Event{User: api.Nobody, Op: op, Status: status, Tick: p.now})
}
