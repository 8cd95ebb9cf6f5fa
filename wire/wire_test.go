package wire_test

import (
	"bytes"
	"math"
	"math/rand"
	"slices"
	"strings"
	"testing"

	"paravent/api"
	"paravent/wire"
)

// asked is a request of an Op with a head of its own.
func asked(op int) api.Request {
	return api.Request{Op: op, Tenant: 4, User: 258, Secret: 0x0102030405060708, M: 9}
}

// with is bytes behind the head of asked.
func with(op int, l ...byte) []byte {
	return append([]byte{byte(op), 4, 1, 2, 1, 2, 3, 4, 5, 6, 7, 8, 9}, l...)
}

// sample is a request and its bytes.
type sample struct {
	r api.Request
	b []byte
}

// samples are one request of each Op, each field with a number of its own.
func samples() []sample {
	l := make([]sample, 20)
	for op := range 20 {
		l[op].r = asked(op)
	}
	put := func(op int, change func(r *api.Request), b ...byte) {
		change(&l[op].r)
		l[op].b = with(op, b...)
	}
	none := func(*api.Request) {}
	box := api.Rect{X0: 258, Y0: 772, X1: 1286, Y1: 1800}
	put(1, func(r *api.Request) { r.Whom, r.Role, r.Tier, r.Quota = 258, 3, 4, 1286 }, 1, 2, 3, 4, 5, 6)
	put(2, func(r *api.Request) { r.Whom = 258 }, 1, 2)
	put(3, func(r *api.Request) { r.Text = "cap; \x00\xff" }, 'c', 'a', 'p', ';', ' ', 0, 255)
	put(4, func(r *api.Request) { r.Whom, r.Rights, r.Until = 258, 3, 0x04050607 }, 1, 2, 3, 4, 5, 6, 7)
	put(5, func(r *api.Request) { r.Rights, r.Zoom, r.Box, r.Until = 31, 16, box, 0x090a0b0c },
		31, 16, 1, 2, 3, 4, 5, 6, 7, 8, 9, 10, 11, 12)
	put(6, func(r *api.Request) { r.Other = 0xf102030405060708 }, 0xf1, 2, 3, 4, 5, 6, 7, 8)
	put(7, func(r *api.Request) { r.Profile = api.Profile{K: 258, Area: 0xf304050607080900} },
		1, 2, 0xf3, 4, 5, 6, 7, 8, 9, 0)
	put(8, func(r *api.Request) { r.At, r.Label = api.Point{X: 258, Y: 772}, 5 }, 1, 2, 3, 4, 5)
	put(9, none)
	put(10, none)
	put(11, none)
	put(12, none)
	put(13, func(r *api.Request) { r.Box = box }, 1, 2, 3, 4, 5, 6, 7, 8)
	put(14, func(r *api.Request) { r.At = api.Point{X: 258, Y: 772} }, 1, 2, 3, 4)
	put(15, func(r *api.Request) { r.Box = box }, 1, 2, 3, 4, 5, 6, 7, 8)
	put(16, func(r *api.Request) { r.At = api.Point{X: 258, Y: 772} }, 1, 2, 3, 4)
	put(17, func(r *api.Request) { r.From = 258 }, 1, 2)
	put(18, none)
	put(19, func(r *api.Request) { r.Whom, r.Quota = 258, 772 }, 1, 2, 3, 4)
	return l[1:]
}

// wantWritten wants the bytes of a request that may be.
func wantWritten(t *testing.T, r api.Request, want []byte) {
	t.Helper()
	if !wire.Right(r) {
		t.Fatalf("may not be: %+v", r)
	}
	if b, e := wire.Encode(r); e != api.OK || !bytes.Equal(b, want) {
		t.Fatalf("Encode(%+v) = %v, %d, want %v", r, b, e, want)
	}
}

// wantNot wants a request not to be written.
func wantNot(t *testing.T, r api.Request, want api.Errno) {
	t.Helper()
	if wire.Right(r) {
		t.Fatalf("may be: %+v", r)
	}
	if b, e := wire.Encode(r); e != want || len(b) != 0 {
		t.Fatalf("Encode(%+v) = %v, %d, want none, %d", r, b, e, want)
	}
}

// wantRead wants what bytes are read as, and the bytes to stay as they are.
func wantRead(t *testing.T, b []byte, want api.Request, err api.Errno) {
	t.Helper()
	kept := bytes.Clone(b)
	if r, e := wire.Decode(b); e != err || r != want {
		t.Fatalf("Decode(%v) = %+v, %d, want %+v, %d", b, r, e, want, err)
	}
	if !bytes.Equal(b, kept) {
		t.Fatalf("Decode turned %v to %v", kept, b)
	}
}

// wantRefused wants an error, and the zero request.
func wantRefused(t *testing.T, b []byte, err api.Errno) {
	t.Helper()
	wantRead(t, b, api.Request{}, err)
}

func TestExamples(t *testing.T) {
	r := api.Request{Op: api.OpWhere, Tenant: 1, User: 258, Secret: 5}
	b := []byte{12, 1, 1, 2, 0, 0, 0, 0, 0, 0, 0, 5, 0}
	wantWritten(t, r, b)
	wantRead(t, b, r, api.OK)
	wantRead(t, []byte{12, 0, 0, 0, 0, 0, 0, 0, 0, 0, 0, 9, 5}, api.Request{Op: api.OpWhere, Secret: 9, M: 5}, api.OK)
}

// wildOps are no Ops.
func wildOps() []int {
	return []int{0, -1, -12, 20, 21, 127, 128, 255, 256, 257, 268, 65536, 1<<32 + 12, math.MinInt, math.MinInt + 12, math.MaxInt}
}

// P19.1

func TestNeeds(t *testing.T) {
	want := []int{6, 2, 0, 7, 14, 8, 10, 5, 0, 0, 0, 0, 8, 4, 8, 4, 2, 0, 4}
	for i, n := range want {
		if got := wire.Needs(i + 1); got != n {
			t.Errorf("Needs(%d) = %d, want %d", i+1, got, n)
		}
	}
	for _, op := range wildOps() {
		if got := wire.Needs(op); got != -1 {
			t.Errorf("Needs(%d) = %d, want -1", op, got)
		}
	}
}

func TestEncode(t *testing.T) {
	for _, s := range samples() {
		wantWritten(t, s.r, s.b)
		if n := wire.Needs(s.r.Op); s.r.Op != api.OpPolicy && n != len(s.b)-13 {
			t.Errorf("Needs(%d) = %d, but there are %d bytes", s.r.Op, n, len(s.b)-13)
		}
	}
}

func TestEncodeZeros(t *testing.T) {
	for op := 1; op <= 19; op++ {
		b := make([]byte, 13+wire.Needs(op))
		b[0] = byte(op)
		wantWritten(t, api.Request{Op: op}, b)
		wantRead(t, b, api.Request{Op: op}, api.OK)
	}
}

func TestOpsThatAreNot(t *testing.T) {
	for _, op := range wildOps() {
		wantNot(t, api.Request{Op: op}, api.ErrOp)
		// ErrOp comes first, whatever else may not be.
		for _, s := range samples() {
			r := s.r
			r.Op, r.M, r.Tenant = op, 65, -1
			wantNot(t, r, api.ErrOp)
		}
	}
}

// held is a request of an Op in which a number may be as great as a field lets it: a box that is to grow has its greatest corner far out.
func held(op int, f field) api.Request {
	r := api.Request{Op: op}
	if f.name == "X0" || f.name == "Y0" {
		r.Box.X1, r.Box.Y1 = 65535, 65535
	}
	return r
}

func TestNumbersAtTheirEdges(t *testing.T) {
	for op := 1; op <= 19; op++ {
		for _, f := range all(op)[1:] {
			r := held(op, f)
			for _, n := range []uint64{0, 1, f.most - 1, f.most} {
				wantWritten(t, set(r, f, n), code(set(r, f, n)))
			}
			if great(&r, f.name) != nil {
				continue
			}
			below := math.MinInt
			for _, n := range []int{int(f.most + 1), 1 << (8 * f.wide), 1<<(8*f.wide) + 1, 1 << 40, math.MaxInt, -1, -2, -256, below, below + 1} {
				wantNot(t, set(r, f, uint64(n)), api.ErrArg)
			}
		}
	}
}

func TestLimits(t *testing.T) {
	for _, c := range []struct {
		op    int
		field string
		most  int
	}{
		{12, "Tenant", 255}, {12, "User", 65535}, {12, "M", api.MaxM}, {1, "Whom", 65535}, {1, "Role", api.MaxRole},
		{1, "Tier", api.MaxTier}, {1, "Quota", api.MaxQuota}, {2, "Whom", 65535}, {4, "Whom", 65535}, {4, "Rights", api.MayAll},
		{4, "Until", api.MaxTick}, {5, "Rights", api.MayAll}, {5, "Zoom", api.MaxLevel}, {5, "Until", api.MaxTick},
		{7, "K", api.MaxK}, {8, "X", 65535}, {8, "Y", 65535}, {8, "Label", api.MaxLabel}, {14, "X", 65535}, {16, "Y", 65535},
		{17, "From", 65535}, {19, "Whom", 65535}, {19, "Quota", api.MaxQuota}, {13, "X1", 65535}, {15, "Y1", 65535}, {5, "X1", 65535},
	} {
		r := asked(c.op)
		*small(&r, c.field) = c.most
		if !wire.Right(r) {
			t.Errorf("%s of %d may not be %d", c.field, c.op, c.most)
		}
		*small(&r, c.field)++
		wantNot(t, r, api.ErrArg)
	}
}

func TestBoxes(t *testing.T) {
	for _, op := range []int{api.OpAttenuate, api.OpWindow, api.OpCloaks} {
		for _, b := range []api.Rect{{}, {X1: 65535, Y1: 65535}, {X0: 65535, Y0: 65535, X1: 65535, Y1: 65535}, {X0: 3, Y0: 4, X1: 3, Y1: 4}, {X0: 3, X1: 4}} {
			r := api.Request{Op: op, Box: b}
			wantWritten(t, r, code(r))
			wantRead(t, code(r), r, api.OK)
		}
		for _, b := range []api.Rect{
			{X0: 1}, {Y0: 1}, {X0: 4, Y0: 4, X1: 3, Y1: 4}, {X0: 4, Y0: 4, X1: 4, Y1: 3}, {X0: 65535, Y0: 65535, X1: 65534, Y1: 65535},
		} {
			r := api.Request{Op: op, Box: b}
			wantNot(t, r, api.ErrArg)
			wantRefused(t, code(r), api.ErrRange)
		}
		for _, b := range []api.Rect{{X0: -1}, {Y0: -1, Y1: 3}, {X1: 65536}, {Y1: 65536}, {X0: 65536, X1: 65537}, {X0: -2, Y0: -2, X1: -1, Y1: -1}} {
			wantNot(t, api.Request{Op: op, Box: b}, api.ErrArg)
		}
	}
}

func TestTexts(t *testing.T) {
	for _, n := range []int{0, 1, 511, 512} {
		r := asked(api.OpPolicy)
		r.Text = strings.Repeat("\xfe", n)
		wantWritten(t, r, with(api.OpPolicy, []byte(r.Text)...))
		wantRead(t, with(api.OpPolicy, []byte(r.Text)...), r, api.OK)
	}
	for _, n := range []int{513, 514, 600, 1024, 65536} {
		r := asked(api.OpPolicy)
		r.Text = strings.Repeat("a", n)
		wantNot(t, r, api.ErrArg)
		wantRefused(t, with(api.OpPolicy, []byte(r.Text)...), api.ErrLong)
	}
}

func TestFieldsOfOtherOps(t *testing.T) {
	for op := 1; op <= 19; op++ {
		for _, f := range every {
			if slices.Contains(own[op], f) {
				continue
			}
			for _, n := range []int{1, 2, -1, 256, math.MinInt, math.MaxInt} {
				r := set(asked(op), f, uint64(n))
				wantNot(t, r, api.ErrArg)
			}
		}
		if op != api.OpPolicy {
			r := asked(op)
			for _, s := range []string{"a", "\x00", strings.Repeat("a", 513)} {
				r.Text = s
				wantNot(t, r, api.ErrArg)
			}
		}
		// A box that may be is too much too, where the Op has none.
		if r := asked(op); !slices.Contains(own[op], every[len(every)-1]) {
			r.Box = api.Rect{X0: 1, Y0: 1, X1: 2, Y1: 2}
			wantNot(t, r, api.ErrArg)
		}
	}
}

// P19.2

func TestDecode(t *testing.T) {
	for _, s := range samples() {
		wantRead(t, s.b, s.r, api.OK)
	}
}

func TestTooFewForAnyRequest(t *testing.T) {
	wantRefused(t, nil, api.ErrShort)
	for n := range 13 {
		wantRefused(t, make([]byte, n), api.ErrShort)
		wantRefused(t, bytes.Repeat([]byte{255}, n), api.ErrShort) // ahead of the Op
		wantRefused(t, with(api.OpWhere)[:n], api.ErrShort)
	}
}

func TestDecodeOps(t *testing.T) {
	for op := range 256 {
		for _, m := range []byte{0, 64, 65, 255} {
			for _, n := range []int{0, 1, 14, 600} {
				b := with(op, make([]byte, n)...)
				b[12] = m
				switch {
				case op < 1 || op > 19:
					wantRefused(t, b, api.ErrOp) // ahead of M
				case m > 64:
					wantRefused(t, b, api.ErrRange) // ahead of the length
				}
			}
		}
	}
}

func TestDecodeM(t *testing.T) {
	for m := range 256 {
		b := with(api.OpWhere)
		b[12] = byte(m)
		want, err := asked(api.OpWhere), api.OK
		if want.M = m; m > 64 {
			want, err = api.Request{}, api.ErrRange
		}
		wantRead(t, b, want, err)
	}
}

func TestDecodeLengths(t *testing.T) {
	for op := 1; op <= 19; op++ {
		if op == api.OpPolicy {
			continue // it has all bytes that are left: see TestTexts
		}
		n := wire.Needs(op)
		for left := range 40 {
			// The fields are too great at that, but the length is told first.
			for _, one := range []byte{0, 255} {
				b := with(op, bytes.Repeat([]byte{one}, left)...)
				switch {
				case left < n:
					wantRefused(t, b, api.ErrShort)
				case left > n:
					wantRefused(t, b, api.ErrLong)
				}
			}
		}
		wantRefused(t, with(op, make([]byte, 600)...), api.ErrLong)
		wantRefused(t, with(op, make([]byte, 1<<16+n)...), api.ErrLong)
	}
}

func TestDecodeFieldsThatAreTooGreat(t *testing.T) {
	for op := 1; op <= 19; op++ {
		place := 13
		for _, f := range own[op] {
			if f.wide == 1 {
				for n := range 256 {
					b := make([]byte, 13+wire.Needs(op))
					b[0], b[place] = byte(op), byte(n)
					if uint64(n) > f.most {
						wantRefused(t, b, api.ErrRange)
					} else {
						wantRead(t, b, set(api.Request{Op: op}, f, uint64(n)), api.OK)
					}
				}
			}
			place += f.wide
		}
	}
}

// P19.3, and all of P19.1 and P19.2, held against the model.

func TestWrittenIsReadAsItWas(t *testing.T) {
	r := rand.New(rand.NewSource(1))
	for range 50000 {
		q := anyRequest(r)
		if !may(q) {
			t.Fatalf("the model's request may not be: %+v", q)
		}
		b := code(q)
		wantWritten(t, q, b)
		wantRead(t, b, q, api.OK)
	}
}

// spoilt is a request with some fields turned to any numbers.
func spoilt(r *rand.Rand, q api.Request) api.Request {
	for range 1 + r.Intn(2) {
		l := append(head[:len(head):len(head)], every...)
		f := l[r.Intn(len(l))]
		if r.Intn(2) == 0 {
			f = all(q.Op)[r.Intn(len(all(q.Op)))]
		}
		if f.name == "Op" {
			continue // of another Op all else is another's
		}
		q = set(q, f, []uint64{f.most, f.most + 1, 1, 0, r.Uint64(), r.Uint64() >> r.Intn(64)}[r.Intn(6)])
	}
	if r.Intn(20) == 0 {
		q.Text += strings.Repeat("x", r.Intn(600))
	}
	return q
}

func TestRequestsLikeTheModel(t *testing.T) {
	r := rand.New(rand.NewSource(2))
	good, bad := 0, 0
	for range 100000 {
		q := spoilt(r, anyRequest(r))
		if may(q) {
			good++
			wantWritten(t, q, code(q))
			wantRead(t, code(q), q, api.OK)
		} else {
			bad++
			wantNot(t, q, api.ErrArg)
		}
	}
	if good < 5000 || bad < 5000 {
		t.Error("too seldom:", good, bad)
	}
}

// scratched is bytes of a request with some turned, cut off or put behind.
func scratched(r *rand.Rand, b []byte) []byte {
	switch r.Intn(4) {
	case 0:
		b[r.Intn(len(b))] = byte(r.Intn(256))
	case 1:
		b[r.Intn(len(b))] ^= 1 << r.Intn(8)
	case 2:
		b = b[:r.Intn(len(b))]
	case 3:
		b = append(b, make([]byte, 1+r.Intn(3))...)
	}
	return b
}

func TestBytesLikeTheModel(t *testing.T) {
	r := rand.New(rand.NewSource(3))
	errs := map[api.Errno]int{}
	for range 100000 {
		b := scratched(r, code(anyRequest(r)))
		want, err := parse(b)
		wantRead(t, b, want, err)
		if errs[err]++; err == api.OK {
			wantWritten(t, want, b)
		}
	}
	for range 100000 {
		b := make([]byte, r.Intn(40))
		r.Read(b)
		if len(b) > 12 && r.Intn(4) > 0 {
			b[0], b[12] = b[0]%20, b[12]%65
		}
		want, err := parse(b)
		wantRead(t, b, want, err)
		errs[err]++
	}
	for _, e := range []api.Errno{api.OK, api.ErrShort, api.ErrLong, api.ErrOp, api.ErrRange} {
		if errs[e] < 1000 {
			t.Error("too seldom:", e, errs[e])
		}
	}
}

// Rule 3

func TestNothingIsShared(t *testing.T) {
	for _, s := range samples() {
		a, _ := wire.Encode(s.r)
		b, _ := wire.Encode(s.r)
		for i := range a {
			a[i] = 9
		}
		_ = append(a, 9, 9)
		if !bytes.Equal(b, s.b) {
			t.Error("two answers share their bytes:", b)
		}
		read, _ := wire.Decode(b)
		clear(b)
		if read != s.r {
			t.Errorf("what was read shares the bytes: %+v", read)
		}
	}
}

// P1

func TestWildArguments(t *testing.T) {
	r := rand.New(rand.NewSource(4))
	numbers := []int{0, 1, 7, 8, -1, 255, 256, 65535, 65536, api.MaxTick, math.MinInt, math.MaxInt}
	pick := func() int { return numbers[r.Intn(len(numbers))] }
	for range 20000 {
		q := api.Request{Op: r.Intn(22) - 1}
		for _, f := range append(head[1:len(head):len(head)], every...) {
			q = set(q, f, uint64(pick()))
		}
		if r.Intn(2) == 0 {
			q.Op = pick()
		}
		if wire.Right(q) != may(q) {
			t.Fatalf("Right is not as it is to be: %+v", q)
		}
		wire.Encode(q)
		wire.Needs(pick())
	}
	for range 2000 {
		b := make([]byte, r.Intn(700))
		r.Read(b)
		wire.Decode(b)
	}
}
