package reply_test

import (
	"bytes"
	"math"
	"math/rand"
	"slices"
	"testing"

	"paravent/api"
	"paravent/reply"
)

// same tells whether two answers are the same. A list without elements may be nil or empty.
func same(a, b api.Answer) bool {
	return a.Status == b.Status && a.Secret == b.Secret && a.Record == b.Record && a.Box == b.Box &&
		slices.Equal(a.Seen, b.Seen) && slices.Equal(a.Events, b.Events)
}

// clone is an answer that shares no memory with another one.
func clone(a api.Answer) api.Answer {
	a.Seen, a.Events = slices.Clone(a.Seen), slices.Clone(a.Events)
	return a
}

// wantWritten wants the bytes of an answer that fits, and the answer to stay as it is.
func wantWritten(t *testing.T, op, m int, a api.Answer, want []byte) {
	t.Helper()
	kept := clone(a)
	if !reply.Fits(op, m, a) {
		t.Fatalf("does not fit %d, %d: %+v", op, m, a)
	}
	if b, e := reply.Encode(op, m, a); e != api.OK || !bytes.Equal(b, want) {
		t.Fatalf("Encode(%d, %d, %+v) = %v, %d, want %v", op, m, a, b, e, want)
	}
	if !same(a, kept) {
		t.Fatalf("%+v was turned to %+v", kept, a)
	}
	if n := reply.Length(op, m); n != len(want) {
		t.Fatalf("Length(%d, %d) = %d, but there are %d bytes", op, m, n, len(want))
	}
}

// wantNot wants an answer not to be written.
func wantNot(t *testing.T, op, m int, a api.Answer, want api.Errno) {
	t.Helper()
	if reply.Fits(op, m, a) {
		t.Fatalf("fits %d, %d: %+v", op, m, a)
	}
	if b, e := reply.Encode(op, m, a); e != want || len(b) != 0 {
		t.Fatalf("Encode(%d, %d, %+v) = %v, %d, want none, %d", op, m, a, b, e, want)
	}
}

// wantRead wants what bytes are read as, and the bytes to stay as they are.
func wantRead(t *testing.T, op, m int, b []byte, want api.Answer, err api.Errno) {
	t.Helper()
	kept := bytes.Clone(b)
	if a, e := reply.Decode(op, m, b); e != err || !same(a, want) {
		t.Fatalf("Decode(%d, %d, %v) = %+v, %d, want %+v, %d", op, m, b, a, e, want, err)
	}
	if !bytes.Equal(b, kept) {
		t.Fatalf("Decode turned %v to %v", kept, b)
	}
}

// wantRefused wants an error, and the zero answer.
func wantRefused(t *testing.T, op, m int, b []byte, err api.Errno) {
	t.Helper()
	wantRead(t, op, m, b, api.Answer{}, err)
}

// wantBoth wants an answer to be written as bytes, and these to be read as it.
func wantBoth(t *testing.T, op, m int, a api.Answer, b []byte) {
	t.Helper()
	wantWritten(t, op, m, a, b)
	wantRead(t, op, m, b, a, api.OK)
}

// wildOps are no Ops, wildMs no M.
func wildOps() []int {
	return []int{0, -1, 20, 21, 255, 256, 257, 268, 1<<32 + 12, math.MinInt, math.MinInt + 12, math.MaxInt}
}

func wildMs() []int {
	return []int{-1, 65, 66, 128, 255, 256, 1 << 40, math.MinInt, math.MaxInt}
}

func TestExamples(t *testing.T) {
	if n := reply.Length(api.OpWindow, 2); n != 25 {
		t.Error("Length:", n)
	}
	wantBoth(t, api.OpWhere, 0, api.Answer{Status: api.StDenied}, []byte{6, 12, 0, 0, 0, 0, 0, 0})
	wantBoth(t, api.OpWhere, 5, api.Answer{Status: api.StNone}, []byte{8, 12, 0, 0, 0, 0, 0, 0})
}

// P20.1

func TestLength(t *testing.T) {
	for _, m := range []int{0, 1, 2, 3, 63, 64} {
		want := []int{
			3, 3, 3, 11, 11, 3, 3, 3, 3, 11, 3, 8, 3 + 11*m, 3 + 11*m, 3 + 11*m, 3 + 11*m, 3 + 8*m, 3 + 8*m, 3,
		}
		for i, n := range want {
			if got := reply.Length(i+1, m); got != n {
				t.Errorf("Length(%d, %d) = %d, want %d", i+1, m, got, n)
			}
		}
	}
	for _, op := range wildOps() {
		for _, m := range []int{0, 1, 64, 65, -1} {
			if got := reply.Length(op, m); got != 3 {
				t.Errorf("Length(%d, %d) = %d, want 3", op, m, got)
			}
		}
	}
	for _, m := range wildMs() {
		for op := 1; op <= 19; op++ {
			if got := reply.Length(op, m); got != 3 {
				t.Errorf("Length(%d, %d) = %d, want 3", op, m, got)
			}
		}
	}
}

func TestAnswers(t *testing.T) {
	box := api.Rect{X0: 258, Y0: 772, X1: 1286, Y1: 1800}
	whole := api.Rect{X1: 65535, Y1: 65535}
	secret := api.Answer{Secret: 0xf102030405060708}
	seen := api.Answer{Seen: []api.Seen{{ID: 0x0a0b, Level: 14, Box: box}, {ID: 65535, Level: 16, Box: whole}}}
	events := api.Answer{Events: []api.Event{{User: 258, Op: 3, Status: 4, Tick: 0x05060708}, {User: 65535, Op: 255, Status: 255, Tick: api.MaxTick}}}
	for _, op := range []int{api.OpMint, api.OpAttenuate} {
		for _, m := range []int{0, 64} {
			wantBoth(t, op, m, secret, []byte{0, byte(op), 0, 0xf1, 2, 3, 4, 5, 6, 7, 8})
			wantBoth(t, op, m, api.Answer{}, []byte{0, byte(op), 0, 0, 0, 0, 0, 0, 0, 0, 0})
		}
	}
	wantBoth(t, api.OpWhere, 0, api.Answer{Record: api.Record{At: api.Point{X: 258, Y: 772}, Label: 5}}, []byte{0, 12, 0, 1, 2, 3, 4, 5})
	wantBoth(t, api.OpWhere, 64, api.Answer{Record: api.Record{At: api.Point{X: 65535, Y: 65535}, Label: 7}},
		[]byte{0, 12, 0, 255, 255, 255, 255, 7})
	wantBoth(t, api.OpPublish, 3, api.Answer{Box: box}, []byte{0, 10, 0, 1, 2, 3, 4, 5, 6, 7, 8})
	wantBoth(t, api.OpPublish, 0, api.Answer{Box: whole}, []byte{0, 10, 0, 0, 0, 0, 0, 255, 255, 255, 255})
	for _, op := range []int{api.OpWindow, api.OpNear, api.OpCloaks, api.OpNearCloaks} {
		b := []byte{
			0, byte(op), 2, 10, 11, 14, 1, 2, 3, 4, 5, 6, 7, 8,
			255, 255, 16, 0, 0, 0, 0, 255, 255, 255, 255,
		}
		wantBoth(t, op, 2, seen, b)
		wantBoth(t, op, 3, seen, append(b, make([]byte, 11)...))
		wantNot(t, op, 1, seen, api.ErrArg)
	}
	for _, op := range []int{api.OpTrail, api.OpDrain} {
		b := []byte{0, byte(op), 2, 1, 2, 3, 4, 5, 6, 7, 8, 255, 255, 255, 255, 255, 255, 255, 255}
		wantBoth(t, op, 2, events, b)
		wantBoth(t, op, 4, events, append(b, make([]byte, 16)...))
		wantNot(t, op, 1, events, api.ErrArg)
	}
	for _, op := range []int{1, 2, 3, 6, 7, 8, 9, 11, 19} {
		wantBoth(t, op, 64, api.Answer{}, []byte{0, byte(op), 0})
	}
}

func TestStatuses(t *testing.T) {
	for op := 1; op <= 19; op++ {
		for _, m := range []int{0, 1, 64} {
			for status := range 13 {
				b := make([]byte, length(op, m))
				b[0], b[1] = byte(status), byte(op)
				wantBoth(t, op, m, api.Answer{Status: status}, b)
				wantBoth(t, op, m, api.Answer{Status: status, Seen: []api.Seen{}, Events: []api.Event{}}, b)
			}
			for _, status := range []int{-1, 13, 14, 255, 256, 257, math.MinInt, math.MaxInt} {
				wantNot(t, op, m, api.Answer{Status: status}, api.ErrArg)
			}
		}
	}
}

// parts are answers of the status StOK that have one thing each, by what they have.
func parts() map[kind]api.Answer {
	return map[kind]api.Answer{
		aSecret:    {Secret: 1},
		aRecord:    {Record: api.Record{At: api.Point{Y: 1}}},
		aBox:       {Box: api.Rect{X1: 1}},
		someSeen:   {Seen: make([]api.Seen, 1)},
		someEvents: {Events: make([]api.Event, 1)},
	}
}

func TestWhatAnAnswerHasNot(t *testing.T) {
	for op, of := range kinds {
		for k, a := range parts() {
			if k == of {
				wantWritten(t, op, 9, a, code(op, 9, a))
			} else {
				wantNot(t, op, 9, a, api.ErrArg)
			}
			for status := 1; status <= 12; status++ {
				a.Status = status
				wantNot(t, op, 9, a, api.ErrArg) // a refused one has nothing
			}
		}
		for _, record := range []api.Record{{Label: 1}, {At: api.Point{X: 1}}, {ID: 1}} {
			if of != aRecord {
				wantNot(t, op, 9, api.Answer{Record: record}, api.ErrArg)
			}
			wantNot(t, op, 9, api.Answer{Status: api.StNone, Record: record}, api.ErrArg)
		}
	}
	both := parts()[someSeen]
	both.Events = parts()[someEvents].Events
	for op := range kinds {
		wantNot(t, op, 9, both, api.ErrArg)
	}
}

func TestItems(t *testing.T) {
	for op, k := range kinds {
		for m := range 65 {
			for _, n := range []int{0, 1, m - 1, m, m + 1, 64, 65, 255, 256, 256 + m, 1000} {
				a := api.Answer{}
				switch {
				case n < 0 || k != someSeen && k != someEvents:
					continue
				case k == someSeen:
					a.Seen = make([]api.Seen, n)
				default:
					a.Events = make([]api.Event, n)
				}
				if n > m {
					wantNot(t, op, m, a, api.ErrArg)
				} else {
					wantBoth(t, op, m, a, code(op, m, a))
				}
			}
		}
	}
}

// bad are numbers that are below 0 or above a greatest one.
func bad(most int) []int {
	return []int{-1, -2, -256, math.MinInt, most + 1, most + 2, most + 256, 1<<40 + 1, math.MaxInt}
}

func TestRecordsAtTheirEdges(t *testing.T) {
	with := func(change func(k *api.Record, n int), most int) {
		t.Helper()
		var a api.Answer
		for _, n := range []int{0, 1, most - 1, most} {
			change(&a.Record, n)
			wantBoth(t, api.OpWhere, 0, a, code(api.OpWhere, 0, a))
		}
		for _, n := range bad(most) {
			change(&a.Record, n)
			wantNot(t, api.OpWhere, 0, a, api.ErrArg)
		}
	}
	with(func(k *api.Record, n int) { k.At.X = n }, 65535)
	with(func(k *api.Record, n int) { k.At.Y = n }, 65535)
	with(func(k *api.Record, n int) { k.Label = n }, api.MaxLabel)
	for _, id := range []int{1, 2, -1, 65536, math.MinInt, math.MaxInt} {
		wantNot(t, api.OpWhere, 0, api.Answer{Record: api.Record{ID: id}}, api.ErrArg)
	}
}

// wrongBoxes may not be.
func wrongBoxes() []api.Rect {
	return []api.Rect{
		{X0: 1}, {Y0: 1}, {X0: 4, Y0: 4, X1: 3, Y1: 4}, {X0: 4, Y0: 4, X1: 4, Y1: 3}, {X0: -1}, {Y0: -1}, {X1: -1}, {Y1: -1},
		{X1: 65536}, {Y1: 65536}, {X0: 65536, X1: 65537}, {X1: math.MaxInt}, {X0: math.MinInt},
	}
}

func TestBoxes(t *testing.T) {
	for _, b := range []api.Rect{{}, {X1: 65535, Y1: 65535}, {X0: 65535, Y0: 65535, X1: 65535, Y1: 65535}, {X0: 3, Y0: 4, X1: 3, Y1: 4}} {
		for _, op := range []int{api.OpPublish, api.OpWindow, api.OpNear, api.OpCloaks, api.OpNearCloaks} {
			a := api.Answer{Box: b}
			if op != api.OpPublish {
				a = api.Answer{Seen: []api.Seen{{}, {Box: b}}}
			}
			wantBoth(t, op, 3, a, code(op, 3, a))
		}
	}
	for _, b := range wrongBoxes() {
		wantNot(t, api.OpPublish, 3, api.Answer{Box: b}, api.ErrArg)
		for _, op := range []int{api.OpWindow, api.OpNear, api.OpCloaks, api.OpNearCloaks} {
			for at := range 3 {
				a := api.Answer{Seen: make([]api.Seen, 3)}
				a.Seen[at].Box = b
				wantNot(t, op, 3, a, api.ErrArg)
			}
		}
	}
}

func TestItemsAtTheirEdges(t *testing.T) {
	with := func(op int, change func(a *api.Answer, at, n int), most int) {
		t.Helper()
		for at := range 3 {
			fresh := func() api.Answer {
				if op == api.OpTrail || op == api.OpDrain {
					return api.Answer{Events: make([]api.Event, 3)}
				}
				return api.Answer{Seen: make([]api.Seen, 3)}
			}
			for _, n := range []int{0, 1, most - 1, most} {
				a := fresh()
				change(&a, at, n)
				wantBoth(t, op, 4, a, code(op, 4, a))
			}
			for _, n := range bad(most) {
				a := fresh()
				change(&a, at, n)
				wantNot(t, op, 4, a, api.ErrArg)
			}
		}
	}
	for _, op := range []int{api.OpWindow, api.OpNear, api.OpCloaks, api.OpNearCloaks} {
		with(op, func(a *api.Answer, at, n int) { a.Seen[at].ID = n }, 65535)
		with(op, func(a *api.Answer, at, n int) { a.Seen[at].Level = n }, api.MaxLevel)
	}
	for _, op := range []int{api.OpTrail, api.OpDrain} {
		with(op, func(a *api.Answer, at, n int) { a.Events[at].User = n }, 65535)
		with(op, func(a *api.Answer, at, n int) { a.Events[at].Op = n }, 255)
		with(op, func(a *api.Answer, at, n int) { a.Events[at].Status = n }, 255)
		with(op, func(a *api.Answer, at, n int) { a.Events[at].Tick = n }, api.MaxTick)
	}
}

func TestOpsAndMsThatAreNot(t *testing.T) {
	for _, a := range []api.Answer{{}, {Status: api.StDenied}, {Status: 99}, {Secret: 5}} {
		for _, op := range wildOps() {
			for _, m := range []int{0, 64, 65, -1} {
				wantNot(t, op, m, a, api.ErrOp) // ahead of M
			}
		}
		for _, m := range wildMs() {
			for op := 1; op <= 19; op++ {
				wantNot(t, op, m, a, api.ErrArg)
			}
		}
	}
}

func TestFault(t *testing.T) {
	for status := range 13 {
		if b := reply.Fault(status); !bytes.Equal(b, []byte{byte(status), 0, 0}) {
			t.Errorf("Fault(%d) = %v", status, b)
		}
	}
	for _, status := range []int{-1, 13, 14, 255, 256, 258, math.MinInt, math.MaxInt} {
		if b := reply.Fault(status); !bytes.Equal(b, []byte{api.StBad, 0, 0}) {
			t.Errorf("Fault(%d) = %v", status, b)
		}
	}
}

// P20.2

func TestDecodeOrder(t *testing.T) {
	for _, b := range [][]byte{nil, {}, {0, 12, 0}, make([]byte, 8), make([]byte, 3000), bytes.Repeat([]byte{255}, 8)} {
		for _, op := range wildOps() {
			for _, m := range []int{0, 64, 65, -1} {
				wantRefused(t, op, m, b, api.ErrOp) // ahead of M and the length
			}
		}
		for _, m := range wildMs() {
			for op := 1; op <= 19; op++ {
				wantRefused(t, op, m, b, api.ErrArg) // ahead of the length
			}
		}
	}
}

func TestDecodeLengths(t *testing.T) {
	for op := 1; op <= 19; op++ {
		for _, m := range []int{0, 1, 2, 64} {
			n := length(op, m)
			for _, l := range []int{0, 1, 2, 3, 7, 8, 9, 10, 11, 12, n - 1, n + 1, n + 8, n + 11, 2000} {
				if l == n {
					continue
				}
				// They are also those of no answer, but the length is told first.
				wantRefused(t, op, m, make([]byte, l), api.ErrShort)
				wantRefused(t, op, m, bytes.Repeat([]byte{255}, l), api.ErrShort)
			}
			wantRefused(t, op, m, bytes.Repeat([]byte{255}, n), api.ErrRange)
		}
	}
}

// answered is bytes of the right length, all 0 but for some at the front.
func answered(op, m int, front ...byte) []byte {
	b := make([]byte, length(op, m))
	copy(b, front)
	return b
}

func TestBytesOfNoAnswer(t *testing.T) {
	for op := 1; op <= 19; op++ {
		for _, m := range []int{0, 1, 2, 64} {
			for status := 13; status < 256; status++ {
				wantRefused(t, op, m, answered(op, m, byte(status), byte(op)), api.ErrRange)
			}
			for other := range 256 {
				if other != op {
					wantRefused(t, op, m, answered(op, m, 0, byte(other)), api.ErrRange)
				}
			}
			for items := 1; items < 256; items++ {
				k := kinds[op]
				if k != someSeen && k != someEvents || items > m {
					wantRefused(t, op, m, answered(op, m, 0, byte(op), byte(items)), api.ErrRange)
				}
				wantRefused(t, op, m, answered(op, m, 6, byte(op), byte(items)), api.ErrRange)
			}
			// A refused one has nothing behind its Status and its Op.
			for at := 3; at < length(op, m); at++ {
				b := answered(op, m, api.StDenied, byte(op))
				b[at] = 1
				wantRefused(t, op, m, b, api.ErrRange)
			}
		}
	}
}

func TestBytesBehindAnAnswer(t *testing.T) {
	for op, k := range kinds {
		each := 11
		if k == someEvents {
			each = 8
		}
		if k != someSeen && k != someEvents {
			continue
		}
		for items := range 4 {
			for at := 3 + each*items; at < length(op, 4); at++ {
				b := answered(op, 4, 0, byte(op), byte(items))
				b[at] = 1
				wantRefused(t, op, 4, b, api.ErrRange)
			}
		}
	}
}

func TestFieldsThatAreTooGreat(t *testing.T) {
	for n := 8; n < 256; n++ {
		wantRefused(t, api.OpWhere, 0, []byte{0, 12, 0, 0, 0, 0, 0, byte(n)}, api.ErrRange)
	}
	wantRefused(t, api.OpPublish, 0, []byte{0, 10, 0, 0, 1, 0, 0, 0, 0, 0, 0}, api.ErrRange)
	wantRefused(t, api.OpPublish, 0, []byte{0, 10, 0, 0, 0, 0, 1, 0, 0, 0, 0}, api.ErrRange)
	for _, op := range []int{api.OpWindow, api.OpNear, api.OpCloaks, api.OpNearCloaks} {
		for n := 17; n < 256; n++ {
			wantRefused(t, op, 2, answered(op, 2, 0, byte(op), 1, 0, 0, byte(n)), api.ErrRange)
		}
		wantRefused(t, op, 2, answered(op, 2, 0, byte(op), 2, 0, 0, 0, 0, 1), api.ErrRange)
		wantRefused(t, op, 2, answered(op, 2, 0, byte(op), 2, 0, 0, 0, 0, 0, 0, 1), api.ErrRange)
	}
}

// P20.3

func TestAllAnswersAreAsLong(t *testing.T) {
	r := rand.New(rand.NewSource(1))
	for op := 1; op <= 19; op++ {
		for m := range 65 {
			for range 20 {
				b, e := reply.Encode(op, m, anyAnswer(r, op, m))
				if e != api.OK || len(b) != reply.Length(op, m) || len(b) != length(op, m) {
					t.Fatalf("%d bytes of %d, %d; %d", len(b), op, m, e)
				}
			}
		}
	}
}

// P20.4, and all of P20.1 and P20.2, held against the model.

func TestWrittenIsReadAsItWas(t *testing.T) {
	r := rand.New(rand.NewSource(2))
	for range 30000 {
		op, m := anyAsked(r)
		a := anyAnswer(r, op, m)
		if !fits(op, m, a) {
			t.Fatalf("the model's answer does not fit: %+v", a)
		}
		wantBoth(t, op, m, a, code(op, m, a))
	}
}

// spoilt is an answer with something turned to any number.
func spoilt(r *rand.Rand, a api.Answer) api.Answer {
	n := []int{0, 1, 7, 8, 16, 17, 255, 256, 65535, 65536, -1, api.MaxTick, api.MaxTick + 1}[r.Intn(13)]
	l := []*int{&a.Status, &a.Record.At.X, &a.Record.At.Y, &a.Record.Label, &a.Record.ID, &a.Box.X0, &a.Box.Y1, &a.Box.X1}
	if len(a.Seen) > 0 {
		s := &a.Seen[r.Intn(len(a.Seen))]
		l = append(l, &s.ID, &s.Level, &s.Box.X0, &s.Box.Y0, &s.Box.X1, &s.Box.Y1)
	}
	if len(a.Events) > 0 {
		e := &a.Events[r.Intn(len(a.Events))]
		l = append(l, &e.User, &e.Op, &e.Status, &e.Tick)
	}
	*l[r.Intn(len(l))] = n
	switch r.Intn(10) {
	case 0:
		a.Secret = uint64(n)
	case 1:
		a.Seen = append(a.Seen, api.Seen{ID: 1})
	case 2:
		a.Events = append(a.Events, api.Event{})
	}
	return a
}

func TestAnswersLikeTheModel(t *testing.T) {
	r := rand.New(rand.NewSource(3))
	fitting, others := 0, 0
	for range 60000 {
		op, m := anyAsked(r)
		a := spoilt(r, anyAnswer(r, op, m))
		if fits(op, m, a) {
			fitting++
			wantBoth(t, op, m, a, code(op, m, a))
		} else {
			others++
			wantNot(t, op, m, a, api.ErrArg)
		}
	}
	if fitting < 3000 || others < 3000 {
		t.Error("too seldom:", fitting, others)
	}
}

func TestBytesLikeTheModel(t *testing.T) {
	r := rand.New(rand.NewSource(4))
	fitting, others := 0, 0
	for range 60000 {
		op, m := anyAsked(r)
		b := code(op, m, anyAnswer(r, op, m))
		for range r.Intn(3) {
			b[r.Intn(len(b))] = []byte{0, 1, 2, byte(op), byte(r.Intn(256))}[r.Intn(5)]
		}
		if !parse(op, m, b) {
			others++
			wantRefused(t, op, m, b, api.ErrRange)
			continue
		}
		fitting++
		a, e := reply.Decode(op, m, b)
		if e != api.OK || !fits(op, m, a) {
			t.Fatalf("Decode(%d, %d, %v) = %+v, %d", op, m, b, a, e)
		}
		wantWritten(t, op, m, a, b)
	}
	if fitting < 3000 || others < 3000 {
		t.Error("too seldom:", fitting, others)
	}
}

// Rule 3

func TestNothingIsShared(t *testing.T) {
	r := rand.New(rand.NewSource(5))
	for op := 1; op <= 19; op++ {
		a := anyAnswer(r, op, 9)
		one, _ := reply.Encode(op, 9, a)
		two, _ := reply.Encode(op, 9, a)
		for i := range one {
			one[i] = 99
		}
		_ = append(one, 99)
		if !bytes.Equal(two, code(op, 9, a)) {
			t.Error("two answers share their bytes")
		}
		read, _ := reply.Decode(op, 9, two)
		clear(two)
		if !same(read, a) {
			t.Errorf("what was read shares the bytes: %+v", read)
		}
	}
	fault := reply.Fault(3)
	fault[0] = 9
	if b := reply.Fault(3); b[0] != 3 {
		t.Error("faults share their bytes")
	}
}

// P1

func TestWildArguments(t *testing.T) {
	r := rand.New(rand.NewSource(6))
	numbers := []int{0, 1, 12, 13, -1, 64, 65, 255, 256, 65535, 65536, api.MaxTick, math.MinInt, math.MaxInt}
	pick := func() int { return numbers[r.Intn(len(numbers))] }
	for range 20000 {
		op, m := pick(), pick()
		a := api.Answer{
			Status: pick(), Secret: uint64(pick()), Record: api.Record{ID: pick(), At: api.Point{X: pick(), Y: pick()}, Label: pick()},
			Box: api.Rect{X0: pick(), Y0: pick(), X1: pick(), Y1: pick()}, Seen: make([]api.Seen, r.Intn(70)),
		}
		a.Events = append(a.Events, api.Event{User: pick(), Op: pick(), Status: pick(), Tick: pick()})
		if reply.Fits(op, m, a) != fits(op, m, a) {
			t.Fatalf("Fits(%d, %d, %+v) is not as it is to be", op, m, a)
		}
		reply.Encode(op, m, a)
		reply.Length(op, m)
		reply.Fault(op)
		b := make([]byte, r.Intn(750))
		r.Read(b)
		reply.Decode(op, m, b)
		reply.Decode(1+r.Intn(19), r.Intn(65), b)
	}
}
