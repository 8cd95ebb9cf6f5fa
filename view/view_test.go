package view_test

import (
	"math"
	"reflect"
	"slices"
	"testing"

	"paravent/api"
	"paravent/tenant"
	"paravent/view"
)

const (
	last = api.Side - 1
	ever = api.MaxTick
)

func rc(x0, y0, x1, y1 int) api.Rect { return api.Rect{X0: x0, Y0: y0, X1: x1, Y1: y1} }

func pt(x, y int) api.Point { return api.Point{X: x, Y: y} }

func grid() api.Rect { return rc(0, 0, last, last) }

// full is the grant for all.
func full() api.Grant { return api.Grant{Ops: 31, Zoom: 16, Box: grid(), Until: ever} }

// few is a grant of some rights up to a tick.
func few(rights, until int) api.Grant {
	g := full()
	g.Ops, g.Until = rights, until
	return g
}

// ward is a tenant's state: 1 is a nurse and sees beds in the ward closely, 2 sees all a little and may cloak, 3 sees nothing.
func ward() api.State {
	return api.State{
		Members: []api.Member{
			{Quota: 65535}, {User: 1, Role: 3, Tier: 2, Quota: 7, Profile: api.Profile{K: 2, Area: 4}}, {User: 2, Role: 4, Tier: 1, Quota: 9}, {User: 3, Role: 5, Tier: 1},
		},
		Tickets: [][]api.Ticket{
			{{Secret: 9, Grant: full()}, {Secret: 8, Grant: few(1, 5)}},
			{{Secret: 11, Grant: full()}, {Secret: 12, Parent: 11, Grant: few(3, 20)}, {Secret: 13, Parent: 12, Grant: full()}, {Secret: 14, Grant: few(3, 10)}},
			nil,
			{{Secret: 33, Grant: few(2, 9)}},
		},
		Records: []api.Record{{ID: 0, At: pt(65535, 65535)}, {ID: 1, At: pt(5, 9), Label: 1}, {ID: 3, At: pt(12, 6), Label: 2}},
		Shapes:  []api.Shape{{ID: 1, Box: rc(4, 8, 5, 9), Label: 1}, {ID: 2, Box: rc(8, 8, 15, 15), Label: 1}, {ID: 3, Box: rc(0, 0, 31, 31), Label: 1}},
		Text: "role nurse = 3; label bed = 1; region w = 0 0 15 15; allow role nurse tier 0..4 label bed in w zoom 14;" +
			"allow role 4 tier any label any in all zoom 12; cap role 4 tier any label 2 in w zoom 10; cloak role 4;",
		Events: []api.Event{
			{User: 1, Op: api.OpReport, Tick: 2}, {User: 65535, Op: api.OpWhere, Status: api.StUnknown, Tick: 3}, {User: 0, Op: api.OpMint, Tick: 3},
			{User: 1, Op: api.OpWindow, Status: api.StDenied, Tick: 4}, {User: 2, Op: api.OpWhere, Status: api.StNone, Tick: 4},
		},
		Past: 5,
	}
}

// of is the tenant of a state.
func of(t testing.TB, s api.State) *tenant.Tenant {
	t.Helper()
	x, e := tenant.Import(s)
	if e != api.OK {
		t.Fatalf("%+v may not be", s)
	}
	return x
}

// equal tells whether two things are the same, rows without anything being so, nil or empty. It asks nothing of the program.
func equal[T any](a, b T) bool { return equalValues(reflect.ValueOf(a), reflect.ValueOf(b)) }

func equalValues(a, b reflect.Value) bool {
	switch a.Kind() {
	case reflect.Slice:
		same := a.Len() == b.Len()
		for i := 0; same && i < a.Len(); i++ {
			same = equalValues(a.Index(i), b.Index(i))
		}
		return same
	case reflect.Struct:
		for i := range a.NumField() {
			if !equalValues(a.Field(i), b.Field(i)) {
				return false
			}
		}
		return true
	}
	return a.Equal(b)
}

// want holds a view against what is wanted.
func want(t *testing.T, got, want api.View) {
	t.Helper()
	if !equal(got, want) {
		t.Errorf("the view is\n%+v, want\n%+v", got, want)
	}
	if !view.Same(got, want) {
		t.Errorf("%+v is not the same as itself", got)
	}
}

// patches are rows of eight labels, each with the same patches.
func patches(l ...api.Patch) [][]api.Patch {
	return slices.Repeat([][]api.Patch{l}, 8)
}

// P23.1

func TestOfAMember(t *testing.T) {
	s := ward()
	x := of(t, s)
	w := patches()
	w[1] = []api.Patch{{Box: rc(0, 0, 15, 15), Zoom: 14}}
	want(t, view.Of(x, 1, 9), api.View{
		Member: s.Members[1], Known: true, Tick: 9,
		Records: s.Records[1:2], Own: s.Shapes[:1], Events: []api.Event{s.Events[0], s.Events[3]},
		Tickets: s.Tickets[1],
		Seen:    []api.Seen{{ID: 1, Level: 14, Box: rc(4, 8, 7, 11)}},
		Cloaks:  []api.Seen{{ID: 1, Level: 14, Box: rc(4, 8, 7, 11)}, {ID: 2, Level: 14, Box: rc(8, 8, 15, 15)}},
		Patches: w,
	})
}

func TestOfAMemberThatMayCloak(t *testing.T) {
	s := ward()
	w := patches(api.Patch{Box: grid(), Zoom: 12})
	w[2] = []api.Patch{
		{Box: rc(0, 0, 15, 15), Zoom: 10}, {Box: rc(16, 0, last, 15), Zoom: 12}, {Box: rc(0, 16, last, last), Zoom: 12},
	}
	want(t, view.Of(of(t, s), 2, 0), api.View{
		Member: s.Members[2], Known: true, Cloak: true,
		Own: s.Shapes[1:2], Events: s.Events[4:],
		Seen: []api.Seen{
			{ID: 0, Level: 12, Box: rc(last-15, last-15, last, last)}, {ID: 1, Level: 12, Box: rc(0, 0, 15, 15)}, {ID: 3, Level: 10, Box: rc(0, 0, 63, 63)},
		},
		Cloaks: []api.Seen{
			{ID: 1, Level: 12, Box: rc(0, 0, 15, 15)}, {ID: 2, Level: 12, Box: rc(0, 0, 15, 15)}, {ID: 3, Level: 12, Box: rc(0, 0, 31, 31)},
		},
		Counts:  []api.Point{pt(12, 6), pt(5, 9), pt(last, last)},
		Patches: w,
	})
}

func TestOfAMemberThatSeesNothing(t *testing.T) {
	s := ward()
	want(t, view.Of(of(t, s), 3, ever), api.View{
		Member: s.Members[3], Known: true, Records: s.Records[2:], Own: s.Shapes[2:], Patches: patches(), Tick: ever,
	})
}

// header stands ahead of a member's tickets.
func header(user uint64) api.Ticket { return api.Ticket{Parent: user + 1} }

func TestOfTheMember0(t *testing.T) {
	s := ward()
	w := api.View{
		Member: s.Members[0], Known: true, Members: s.Members, Records: s.Records, Own: s.Shapes, Events: s.Events, Text: s.Text,
		Tickets: []api.Ticket{
			header(0), s.Tickets[0][0], s.Tickets[0][1], header(1), s.Tickets[1][0], s.Tickets[1][1], s.Tickets[1][2], s.Tickets[1][3],
			header(2), header(3), s.Tickets[3][0],
		},
		Counts: []api.Point{pt(12, 6), pt(5, 9), pt(last, last)}, Patches: patches(), Tick: 5,
	}
	want(t, view.Of(of(t, s), 0, 5), w)
	// At another tick some are over, of each member.
	w.Tickets = []api.Ticket{header(0), s.Tickets[0][0], header(1), s.Tickets[1][0], header(2), header(3)}
	w.Tick = 21
	want(t, view.Of(of(t, s), 0, 21), w)
	// It sees by its own role and tier as well, and may cloak by its role.
	s.Text = "allow role 0 tier 0..0 label 0 in all zoom 1; allow role 1 tier any label any in all zoom 9; cloak role 0;"
	w.Patches[0], w.Cloak, w.Text = []api.Patch{{Box: grid(), Zoom: 1}}, true, s.Text
	w.Seen = []api.Seen{{ID: 0, Level: 1, Box: rc(32768, 32768, last, last)}}
	want(t, view.Of(of(t, s), 0, 21), w)
}

func TestOfTheMember0AtFirst(t *testing.T) {
	x, _ := tenant.New(7)
	want(t, view.Of(x, 0, 0), api.View{
		Member: api.Member{Quota: 65535}, Known: true, Members: []api.Member{{Quota: 65535}},
		Tickets: []api.Ticket{header(0), {Secret: 7, Grant: full()}}, Patches: patches(),
	})
}

func TestOfNoMember(t *testing.T) {
	x := of(t, ward())
	for _, now := range []int{0, 9, ever, -1, math.MinInt, math.MaxInt} {
		for _, user := range []int{4, 65534, 65535, 65536, -1, math.MinInt, math.MaxInt} {
			want(t, view.Of(x, user, now), api.View{Tick: now})
		}
		for user := range 4 {
			want(t, view.Of(nil, user, now), api.View{Tick: now})
			want(t, view.Of(&tenant.Tenant{}, user, now), api.View{Tick: now})
		}
	}
	if !equal(x.Export(), ward()) {
		t.Error("a view of no member changes the tenant:", x.Export())
	}
	// Who is dismissed is none any more; who is enrolled is one.
	x.Do(api.Request{Op: api.OpDismiss, Secret: 9, Whom: 1}, 0, 0)
	x.Do(api.Request{Op: api.OpEnrol, Secret: 9, Whom: 65534, Role: 1, Tier: 7, Quota: 5}, 0, 0)
	want(t, view.Of(x, 1, 3), api.View{Tick: 3})
	want(t, view.Of(x, 65534, 3), api.View{Member: api.Member{User: 65534, Role: 1, Tier: 7, Quota: 5}, Known: true, Patches: patches(), Tick: 3})
}

// Tickets are told as they are at the tick; those that are over go, and all that were made of them.
func TestOfAtATick(t *testing.T) {
	k := ward().Tickets[1]
	for _, c := range []struct {
		now  int
		want []api.Ticket
	}{
		{-1, k}, {0, k}, {10, k}, {11, k[:3]}, {20, k[:3]}, {21, k[:1]}, {ever, k[:1]}, {ever + 1, nil}, {math.MaxInt, nil},
	} {
		x := of(t, ward())
		if v := view.Of(x, 1, c.now); !slices.Equal(v.Tickets, c.want) || v.Tick != c.now {
			t.Errorf("at %d: %+v, want %+v", c.now, v, c.want)
		}
		if v := view.Of(x, 1, 0); !slices.Equal(v.Tickets, c.want) {
			t.Errorf("at 0 behind %d: %+v, want %+v", c.now, v.Tickets, c.want)
		}
	}
	// But the tickets of another one stay, and all else does.
	x := of(t, ward())
	view.Of(x, 3, 21)
	s := ward()
	s.Tickets[3] = nil
	if is := x.Export(); !equal(is, s) {
		t.Errorf("the state is %+v, want %+v", is, s)
	}
}

// Of the example of the chapter: 2 at 4 4, and at 5 5.
func TestExample(t *testing.T) {
	at := func(x int, text string) api.View {
		return view.Of(of(t, api.State{
			Members: []api.Member{{Quota: 65535}, {User: 1, Quota: 9}, {User: 2, Quota: 9}}, Tickets: make([][]api.Ticket, 3),
			Records: []api.Record{{ID: 2, At: pt(x, x)}}, Text: text,
		}), 1, 2)
	}
	sight := "allow role any tier any label any in all zoom 14;"
	a, b := at(4, sight), at(5, sight)
	if !view.Same(a, b) || !slices.Equal(a.Seen, []api.Seen{{ID: 2, Level: 14, Box: rc(4, 4, 7, 7)}}) {
		t.Errorf("%+v and %+v", a, b)
	}
	if a := at(8, sight); view.Same(a, b) {
		t.Errorf("%+v and %+v", a, b)
	}
	if a, b := at(4, sight+"cloak role any;"), at(5, sight+"cloak role any;"); view.Same(a, b) {
		t.Errorf("who may cloak is told no points: %+v", a)
	}
}

// What is answered is new memory: whoever changes it changes no tenant, and no other row.
func TestOfIsNewMemory(t *testing.T) {
	x := of(t, ward())
	for user := range 4 {
		for i := range reflect.TypeFor[api.View]().NumField() {
			v, was := view.Of(x, user, 0), view.Of(x, user, 0)
			if f := reflect.ValueOf(&v).Elem().Field(i); f.Kind() == reflect.Slice {
				spoil(f)
				f.Set(reflect.ValueOf(was).Field(i))
			}
			if !equal(v, was) || !equal(v, view.Of(x, user, 0)) {
				t.Errorf("of %d the field %d shares memory: %+v, was %+v", user, i, v, was)
			}
		}
		for i := range 8 {
			v, was := view.Of(x, user, 0), view.Of(x, user, 0)
			spoil(reflect.ValueOf(v.Patches[i]))
			v.Patches[i] = was.Patches[i]
			if !equal(v, was) || !equal(v, view.Of(x, user, 0)) {
				t.Errorf("of %d the patches of %d share memory", user, i)
			}
		}
	}
	if s := x.Export(); !equal(s, ward()) {
		t.Errorf("the state is %+v", s)
	}
}

// spoil changes each element of a row, and what stands behind it in its memory.
func spoil(row reflect.Value) {
	row = row.Slice(0, row.Cap())
	for i := range row.Len() {
		if e := row.Index(i); e.Kind() == reflect.Slice {
			spoil(e)
		} else {
			change(e, 0)
		}
	}
}

// change changes the n-th field of a struct.
func change(s reflect.Value, n int) {
	switch f := s.Field(n); f.Kind() {
	case reflect.Bool:
		f.SetBool(!f.Bool())
	case reflect.Int:
		f.SetInt(f.Int() + 1)
	case reflect.Uint64:
		f.SetUint(f.Uint() + 1)
	case reflect.String:
		f.SetString(f.String() + "x")
	case reflect.Struct:
		change(f, f.NumField()-1)
	}
}

// P23.2

// rich is a view all of whose fields have something.
func rich() api.View {
	return api.View{
		Member: api.Member{User: 1, Role: 2, Tier: 3, Quota: 4, Profile: api.Profile{K: 5, Area: 6}}, Known: true, Cloak: true, Tick: 7, Text: "#",
		Records: make([]api.Record, 2), Own: make([]api.Shape, 2), Tickets: make([]api.Ticket, 2), Events: make([]api.Event, 2),
		Seen: make([]api.Seen, 2), Cloaks: make([]api.Seen, 2), Counts: make([]api.Point, 2), Members: make([]api.Member, 2),
		Patches: [][]api.Patch{{{}, {}}, nil, {{}}},
	}
}

func TestSameAsksForEachField(t *testing.T) {
	n := reflect.TypeFor[api.View]().NumField()
	differ := func(what string, i int, b api.View) {
		t.Helper()
		if a := rich(); view.Same(a, b) || view.Same(b, a) {
			t.Errorf("of the field %s %s goes unseen", reflect.TypeFor[api.View]().Field(i).Name, what)
		}
	}
	for i := range n {
		b := rich()
		f := reflect.ValueOf(&b).Elem().Field(i)
		if f.Kind() != reflect.Slice {
			change(reflect.ValueOf(&b).Elem(), i)
			differ("a change", i, b)
			continue
		}
		whole := f.Slice(0, f.Len())
		f.Set(whole.Slice(0, f.Len()-1))
		differ("a shorter row", i, b)
		f.Set(whole.Slice(1, whole.Len()))
		differ("a row that begins later", i, b)
		f.SetZero()
		differ("no row", i, b)
		f.Set(reflect.AppendSlice(reflect.AppendSlice(f, whole), whole))
		differ("a longer row", i, b)
	}
}

func TestSameAsksForEachFieldOfElements(t *testing.T) {
	for i := range reflect.TypeFor[api.View]().NumField() {
		f := reflect.ValueOf(rich()).Field(i)
		if f.Kind() != reflect.Slice || f.Type().Elem().Kind() != reflect.Struct {
			continue
		}
		for at := range f.Len() {
			for n := range f.Index(at).NumField() {
				b := rich()
				change(reflect.ValueOf(&b).Elem().Field(i).Index(at), n)
				if a := rich(); view.Same(a, b) || view.Same(b, a) {
					t.Errorf("the field %d of the element %d of the field %d goes unseen", n, at, i)
				}
			}
		}
	}
	for n := range reflect.TypeFor[api.Member]().NumField() {
		b := rich()
		change(reflect.ValueOf(&b.Member).Elem(), n)
		if a := rich(); view.Same(a, b) || view.Same(b, a) {
			t.Errorf("the field %d of the member goes unseen", n)
		}
	}
}

func TestSameOfRowsOfRows(t *testing.T) {
	p, q := api.Patch{Box: rc(0, 0, 1, 1), Zoom: 3}, api.Patch{Box: rc(0, 0, 1, 2), Zoom: 3}
	rows := [][][]api.Patch{
		nil, {nil}, {{p}}, {{q}}, {{p, q}}, {{q, p}}, {{p}, {q}}, {{p, q}, nil}, {nil, {p, q}}, {nil, nil}, {{p, p}}, {{{Box: p.Box, Zoom: 4}}},
	}
	for i, l := range rows {
		for j, k := range rows {
			if s := view.Same(api.View{Patches: l}, api.View{Patches: k}); s != (i == j) {
				t.Errorf("%v and %v: %v", l, k, s)
			}
		}
	}
}

func TestSameOfNothing(t *testing.T) {
	empty := api.View{
		Records: []api.Record{}, Own: []api.Shape{}, Tickets: []api.Ticket{}, Events: []api.Event{}, Seen: make([]api.Seen, 0, 4), Cloaks: []api.Seen{},
		Counts: []api.Point{}, Patches: [][]api.Patch{}, Members: []api.Member{},
	}
	if !view.Same(empty, api.View{}) || !view.Same(api.View{}, empty) || !view.Same(api.View{}, api.View{}) {
		t.Error("nil and empty rows are not the same")
	}
	if !view.Same(api.View{Patches: [][]api.Patch{nil, {}}}, api.View{Patches: [][]api.Patch{{}, nil}}) {
		t.Error("nil and empty rows of rows are not the same")
	}
	if a := rich(); !view.Same(a, rich()) || !reflect.DeepEqual(a, rich()) {
		t.Error("a view is not the same as itself, or is changed")
	}
}

// P1

func TestWildArguments(t *testing.T) {
	numbers := []int{0, 1, 2, 3, 65534, 65535, 65536, ever, ever + 1, -1, math.MinInt, math.MaxInt}
	first, _ := tenant.New(1)
	views := []api.View{{}, rich()}
	for _, x := range []*tenant.Tenant{nil, {}, first, of(t, ward())} {
		for _, user := range numbers {
			for _, now := range numbers {
				views = append(views, view.Of(x, user, now))
			}
		}
	}
	for i, a := range views {
		for _, b := range views[:i+1] {
			if s := view.Same(a, b); s != equal(a, b) || s != view.Same(b, a) {
				t.Fatalf("%+v and %+v: %v", a, b, s)
			}
		}
	}
}
