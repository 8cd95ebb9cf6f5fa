package reply_test

import (
	"encoding/binary"
	"math/rand"

	"paravent/api"
)

// A model is the document's words: what an Op's answer has is told by a kind of the Op, and bytes are an answer's if one of that many bytes is written so.

// kind is what the answers to some Ops have.
type kind int

const (
	nothing kind = iota
	aSecret
	aRecord
	aBox
	someSeen
	someEvents
)

// kinds are the Ops' kinds, by the Op.
var kinds = map[int]kind{
	1: nothing, 2: nothing, 3: nothing, 4: aSecret, 5: aSecret, 6: nothing, 7: nothing, 8: nothing, 9: nothing, 10: aBox,
	11: nothing, 12: aRecord, 13: someSeen, 14: someSeen, 15: someSeen, 16: someSeen, 17: someEvents, 18: someEvents, 19: nothing,
}

// length is how many bytes an answer has.
func length(op, m int) int {
	k, there := kinds[op]
	if !there || m < 0 || m > 64 {
		return 3
	}
	return []int{3, 11, 8, 11, 3 + 11*m, 3 + 8*m}[k]
}

// good tells whether a rectangle may be.
func good(r api.Rect) bool {
	return r.X0 >= 0 && r.X0 <= r.X1 && r.X1 <= 65535 && r.Y0 >= 0 && r.Y0 <= r.Y1 && r.Y1 <= 65535
}

// from0 tells whether a number is from 0 to the most.
func from0(n, most int) bool { return n >= 0 && n <= most }

// fits tells whether an answer fits.
func fits(op, m int, a api.Answer) bool {
	k, there := kinds[op]
	if !there || !from0(m, 64) || !from0(a.Status, 12) {
		return false
	}
	if a.Status != 0 {
		k = nothing
	}
	if k != aSecret && a.Secret != 0 || k != aRecord && a.Record != (api.Record{}) || k != aBox && a.Box != (api.Rect{}) {
		return false
	}
	if k != someSeen && len(a.Seen) > 0 || k != someEvents && len(a.Events) > 0 || len(a.Seen) > m || len(a.Events) > m {
		return false
	}
	for _, s := range a.Seen {
		if !from0(s.ID, 65535) || !from0(s.Level, 16) || !good(s.Box) {
			return false
		}
	}
	for _, e := range a.Events {
		if !from0(e.User, 65535) || !from0(e.Op, 255) || !from0(e.Status, 255) || !from0(e.Tick, 1<<32-1) {
			return false
		}
	}
	at := a.Record.At
	return a.Record.ID == 0 && from0(at.X, 65535) && from0(at.Y, 65535) && from0(a.Record.Label, 7) && good(a.Box)
}

// two is the bytes of numbers of two bytes.
func two(l ...int) []byte {
	var b []byte
	for _, n := range l {
		b = binary.BigEndian.AppendUint16(b, uint16(n))
	}
	return b
}

// corners is the bytes of a rectangle.
func corners(r api.Rect) []byte { return two(r.X0, r.Y0, r.X1, r.Y1) }

// code are the bytes of an answer that fits.
func code(op, m int, a api.Answer) []byte {
	b := []byte{byte(a.Status), byte(op), byte(len(a.Seen) + len(a.Events))}
	switch kinds[op] {
	case aSecret:
		b = binary.BigEndian.AppendUint64(b, a.Secret)
	case aRecord:
		b = append(append(b, two(a.Record.At.X, a.Record.At.Y)...), byte(a.Record.Label))
	case aBox:
		b = append(b, corners(a.Box)...)
	}
	for _, s := range a.Seen {
		b = append(append(b, two(s.ID)...), byte(s.Level))
		b = append(b, corners(s.Box)...)
	}
	for _, e := range a.Events {
		b = append(append(b, two(e.User)...), byte(e.Op), byte(e.Status))
		b = binary.BigEndian.AppendUint32(b, uint32(e.Tick))
	}
	for len(b) < length(op, m) {
		b = append(b, 0)
	}
	return b
}

// parse tells whether bytes of the right length are those of an answer that fits.
func parse(op, m int, b []byte) bool {
	if int(b[0]) > 12 || int(b[1]) != op || int(b[2]) > m {
		return false
	}
	k := kinds[op]
	each := map[kind]int{someSeen: 11, someEvents: 8}[k]
	if each == 0 && b[2] > 0 {
		return false
	}
	used := 3 + each*int(b[2])
	if each == 0 {
		used = len(b)
	}
	if b[0] != 0 {
		used = 2 // behind Status and Op all is 0
	}
	for _, one := range b[used:] {
		if one != 0 {
			return false
		}
	}
	switch {
	case b[0] != 0:
		return true
	case k == aRecord:
		return b[7] <= 7
	case k == aBox:
		return ordered(b[3:])
	case k == someSeen:
		for i := range int(b[2]) {
			if item := b[3+11*i:]; item[2] > 16 || !ordered(item[3:]) {
				return false
			}
		}
	}
	return true
}

// ordered tells whether the first eight bytes are those of a rectangle that may be.
func ordered(b []byte) bool {
	n := func(i int) int { return int(b[i])*256 + int(b[i+1]) }
	return n(0) <= n(4) && n(2) <= n(6)
}

// anyNumber is a number up to a greatest one, often at an edge.
func anyNumber(r *rand.Rand, most int) int {
	switch r.Intn(5) {
	case 0:
		return 0
	case 1:
		return most
	case 2:
		return min(1, most)
	}
	return r.Intn(most + 1)
}

// anyBox is a rectangle that may be.
func anyBox(r *rand.Rand) api.Rect {
	x, y, z, w := anyNumber(r, 65535), anyNumber(r, 65535), anyNumber(r, 65535), anyNumber(r, 65535)
	return api.Rect{X0: min(x, z), Y0: min(y, w), X1: max(x, z), Y1: max(y, w)}
}

// anyAnswer is an answer that fits.
func anyAnswer(r *rand.Rand, op, m int) api.Answer {
	if r.Intn(4) == 0 {
		return api.Answer{Status: 1 + r.Intn(12)}
	}
	var a api.Answer
	switch kinds[op] {
	case aSecret:
		a.Secret = r.Uint64() >> r.Intn(65)
	case aRecord:
		a.Record = api.Record{At: api.Point{X: anyNumber(r, 65535), Y: anyNumber(r, 65535)}, Label: anyNumber(r, 7)}
	case aBox:
		a.Box = anyBox(r)
	case someSeen:
		for range anyNumber(r, m) {
			a.Seen = append(a.Seen, api.Seen{ID: anyNumber(r, 65535), Level: anyNumber(r, 16), Box: anyBox(r)})
		}
	case someEvents:
		for range anyNumber(r, m) {
			a.Events = append(a.Events, api.Event{
				User: anyNumber(r, 65535), Op: anyNumber(r, 255), Status: anyNumber(r, 255), Tick: anyNumber(r, 1<<32-1),
			})
		}
	}
	return a
}

// anyAsked is an Op and an M.
func anyAsked(r *rand.Rand) (op, m int) {
	return 1 + r.Intn(19), []int{0, 1, 2, 5, 64}[r.Intn(5)]
}
