package wire_test

import (
	"encoding/binary"
	"math"
	"math/rand"

	"paravent/api"
)

// A model is the document's words: the fields of each Op as rows, gone over in one way to write, and in another to read.

// field is a field of a request: how many bytes it has, and the greatest number that it may be.
type field struct {
	name string
	wide int
	most uint64
}

var head = []field{
	{"Op", 1, 255}, {"Tenant", 1, 255}, {"User", 2, 65535}, {"Secret", 8, math.MaxUint64}, {"M", 1, 64},
}

var (
	whom   = field{"Whom", 2, 65535}
	role   = field{"Role", 1, 7}
	tier   = field{"Tier", 1, 7}
	quota  = field{"Quota", 2, 65535}
	rights = field{"Rights", 1, 31}
	zoom   = field{"Zoom", 1, 16}
	until  = field{"Until", 4, 1<<32 - 1}
	other  = field{"Other", 8, math.MaxUint64}
	k      = field{"K", 2, 65535}
	area   = field{"Area", 8, math.MaxUint64}
	label  = field{"Label", 1, 7}
	from   = field{"From", 2, 65535}
	at     = []field{{"X", 2, 65535}, {"Y", 2, 65535}}
	box    = []field{{"X0", 2, 65535}, {"Y0", 2, 65535}, {"X1", 2, 65535}, {"Y1", 2, 65535}}
)

// own are an Op's fields, by the Op. Those of OpPolicy, which has a text, are no numbers.
var own = map[int][]field{
	1:  {whom, role, tier, quota},
	2:  {whom},
	3:  {},
	4:  {whom, rights, until},
	5:  {rights, zoom, box[0], box[1], box[2], box[3], until},
	6:  {other},
	7:  {k, area},
	8:  {at[0], at[1], label},
	9:  {},
	10: {},
	11: {},
	12: {},
	13: box,
	14: at,
	15: box,
	16: at,
	17: {from},
	18: {},
	19: {whom, quota},
}

// every are all fields that some Op has.
var every = append([]field{whom, role, tier, quota, rights, zoom, until, other, k, area, label, from, at[0], at[1]}, box...)

// small is where a number of a request stands that is an int.
func small(r *api.Request, name string) *int {
	switch name {
	case "Op":
		return &r.Op
	case "Tenant":
		return &r.Tenant
	case "User":
		return &r.User
	case "M":
		return &r.M
	case "Whom":
		return &r.Whom
	case "Role":
		return &r.Role
	case "Tier":
		return &r.Tier
	case "Quota":
		return &r.Quota
	case "Rights":
		return &r.Rights
	case "Zoom":
		return &r.Zoom
	case "Until":
		return &r.Until
	case "K":
		return &r.Profile.K
	case "X":
		return &r.At.X
	case "Y":
		return &r.At.Y
	case "Label":
		return &r.Label
	case "From":
		return &r.From
	}
	return corner(&r.Box, name)
}

// corner is where a number of a rectangle stands.
func corner(r *api.Rect, name string) *int {
	switch name {
	case "X0":
		return &r.X0
	case "Y0":
		return &r.Y0
	case "X1":
		return &r.X1
	case "Y1":
		return &r.Y1
	}
	return nil
}

// great is where a number of a request stands that is none.
func great(r *api.Request, name string) *uint64 {
	switch name {
	case "Secret":
		return &r.Secret
	case "Other":
		return &r.Other
	case "Area":
		return &r.Profile.Area
	}
	return nil
}

// get is a field's number, and whether it is one that is not below 0.
func get(r api.Request, f field) (uint64, bool) {
	if n := great(&r, f.name); n != nil {
		return *n, true
	}
	n := *small(&r, f.name)
	return uint64(n), n >= 0
}

// set is the request with another number in a field.
func set(r api.Request, f field, n uint64) api.Request {
	if at := great(&r, f.name); at != nil {
		*at = n
	} else {
		*small(&r, f.name) = int(n)
	}
	return r
}

// all are all fields of the requests of an Op that is there.
func all(op int) []field {
	return append(append([]field(nil), head...), own[op]...)
}

// may tells whether a request may be.
func may(r api.Request) bool {
	if _, there := own[r.Op]; !there {
		return false
	}
	same := api.Request{}
	for _, f := range all(r.Op) {
		n, good := get(r, f)
		if !good || n > f.most {
			return false
		}
		same = set(same, f, n)
	}
	if r.Op == 3 && len(r.Text) <= 512 {
		same.Text = r.Text
	}
	return same == r && r.Box.X0 <= r.Box.X1 && r.Box.Y0 <= r.Box.Y1
}

// code are the bytes of a request that may be.
func code(r api.Request) []byte {
	var b []byte
	for _, f := range all(r.Op) {
		n, _ := get(r, f)
		b = append(b, binary.BigEndian.AppendUint64(nil, n)[8-f.wide:]...)
	}
	return append(b, r.Text...)
}

// needs is how many bytes an Op's fields have.
func needs(op int) int {
	l, there := own[op]
	if !there {
		return -1
	}
	n := 0
	for _, f := range l {
		n += f.wide
	}
	return n
}

// parse is the request of bytes, or the first error that the document names.
func parse(b []byte) (api.Request, api.Errno) {
	if len(b) < 13 {
		return api.Request{}, api.ErrShort
	}
	n := needs(int(b[0]))
	if n < 0 {
		return api.Request{}, api.ErrOp
	}
	if b[12] > 64 {
		return api.Request{}, api.ErrRange
	}
	if len(b) < 13+n {
		return api.Request{}, api.ErrShort
	}
	if b[0] == 3 && len(b) > 13+512 || b[0] != 3 && len(b) > 13+n {
		return api.Request{}, api.ErrLong
	}
	var r api.Request
	for _, f := range all(int(b[0])) {
		m := uint64(0)
		for _, one := range b[:f.wide] {
			m = m*256 + uint64(one)
		}
		b = b[f.wide:]
		r = set(r, f, m)
	}
	r.Text = string(b)
	if !may(r) {
		return api.Request{}, api.ErrRange
	}
	return r, api.OK
}

// anyText is a text with bytes of all kinds, seldom a long one.
func anyText(r *rand.Rand) string {
	n := []int{0, 1, 9, 511, 512}[r.Intn(5)]
	b := make([]byte, n)
	r.Read(b)
	return string(b)
}

// anyNumber is a number up to a greatest one, often at an edge.
func anyNumber(r *rand.Rand, most uint64) uint64 {
	switch r.Intn(5) {
	case 0:
		return 0
	case 1:
		return most
	case 2:
		return min(most, uint64(r.Intn(3)))
	}
	n := r.Uint64() >> r.Intn(64)
	if most == math.MaxUint64 {
		return n
	}
	return n % (most + 1)
}

// anyRequest is a request that may be.
func anyRequest(r *rand.Rand) api.Request {
	q := api.Request{}
	op := 1 + r.Intn(19)
	for _, f := range all(op) {
		q = set(q, f, anyNumber(r, f.most))
	}
	q.Op = op
	q.Box.X0, q.Box.X1 = min(q.Box.X0, q.Box.X1), max(q.Box.X0, q.Box.X1)
	q.Box.Y0, q.Box.Y1 = min(q.Box.Y0, q.Box.Y1), max(q.Box.Y0, q.Box.Y1)
	if op == 3 {
		q.Text = anyText(r)
	}
	return q
}
