package rules_test

import (
	"math/rand"
	"reflect"
	"slices"
	"strings"
	"sync"
	"testing"

	"paravent/api"
	"paravent/policy"
	"paravent/rules"
)

// P12.1

func TestExample(t *testing.T) {
	s := "role nurse = 3; allow role nurse tier 1..4 label any in all zoom 12;"
	wantRead(t, s, []api.Rule{{Kind: api.DAllow, Roles: 8, Lo: 1, Hi: 4, Labels: 255, Boxes: []api.Rect{grid()}, Zoom: 12}}, api.Fault{})
	l, _ := rules.Read(s)
	for _, p := range []api.Point{pt(0, 0), pt(5, 9), pt(last, last)} {
		if z := rules.Zoom(l, 3, 2, 7, p); z != 12 {
			t.Errorf("the zoom of %v is %d", p, z)
		}
	}
}

func TestRulesOfPolicies(t *testing.T) {
	for s, want := range map[string][]api.Rule{
		"":                                         nil,
		"role a = 7; label a = 0;":                 nil,
		"region a = 0 0 65535 65535;":              nil,
		"cloak role any;":                          {{Kind: api.DCloak, Roles: 255}},
		"cloak role 0; cloak role 7;":              {{Kind: api.DCloak, Roles: 1}, {Kind: api.DCloak, Roles: 128}},
		"role a = 0; cloak role a;":                {{Kind: api.DCloak, Roles: 1}},
		"role a = 7;\ncloak role a;":               {{Kind: api.DCloak, Roles: 128}},
		"role a=2;role b=2;cloak role b;":          {{Kind: api.DCloak, Roles: 4}},
		"cap role 5 tier 7 label 6 in all zoom 0;": {{Kind: api.DCap, Roles: 32, Lo: 7, Hi: 7, Labels: 64, Boxes: []api.Rect{grid()}}},
		// Each kind has names of its own.
		"role x = 1; label x = 2; region x = 3 4 5 6; allow role x tier any label x in x zoom 16;": {
			{Kind: api.DAllow, Roles: 2, Hi: 7, Labels: 4, Boxes: []api.Rect{rc(3, 4, 5, 6)}, Zoom: 16}},
		// The boxes stand as they were declared, also those that are the same, in whichever rules.
		"region b = 5 5 9 9 + 0 0 0 0 + 5 5 9 9; cap role any tier 0..6 label 0 in b zoom 1; allow role 0 tier 1 label any in b zoom 2; cloak role 3;": {
			{Kind: api.DCap, Roles: 255, Hi: 6, Labels: 1, Boxes: []api.Rect{rc(5, 5, 9, 9), {}, rc(5, 5, 9, 9)}, Zoom: 1},
			{Kind: api.DAllow, Roles: 1, Lo: 1, Hi: 1, Labels: 255, Boxes: []api.Rect{rc(5, 5, 9, 9), {}, rc(5, 5, 9, 9)}, Zoom: 2},
			{Kind: api.DCloak, Roles: 8}},
		// Names may be declared between rules, and what isn't asked by a rule may be long.
		"cloak role 1; role a = 1; cloak role a;":                   {{Kind: api.DCloak, Roles: 2}, {Kind: api.DCloak, Roles: 2}},
		"region a = 0 0 0 0" + strings.Repeat("+0 0 0 0", 40) + ";": nil,
	} {
		wantRead(t, s, want, api.Fault{})
	}
}

func TestFaultsOfTexts(t *testing.T) {
	wantFault(t, "role a = 8; role = 3;", api.ErrParse, 1, 18)
	wantFault(t, "role a = 8; !", api.ErrChar, 1, 13)
	wantFault(t, "role a = 8; role b = 65536;", api.ErrNumber, 1, 22)
	wantFault(t, "role a = 8"+strings.Repeat(" ", 600)+";", api.ErrLong, 1, 1)
	wantFault(t, "role a = 8; cloak role a", api.ErrParse, 1, 25)
}

func TestFaultsOfNames(t *testing.T) {
	wantFault(t, "role a = 1;\n role a = 2;", api.ErrTwice, 2, 2)
	wantFault(t, "role a = 1; role a = 1;", api.ErrTwice, 1, 13)
	wantFault(t, "label a = 1; role a = 1; label a = 3;", api.ErrTwice, 1, 26)
	wantFault(t, "region a = 0 0 1 1; region b = 0 0 1 1; region a = 2 2 3 3;", api.ErrTwice, 1, 41)
	wantFault(t, "role a = 8;", api.ErrRange, 1, 1)
	wantFault(t, "\n  label a = 8;", api.ErrRange, 2, 3)
	wantFault(t, "role a = 65535;", api.ErrRange, 1, 1)
	for _, box := range []string{"1 0 0 0", "0 1 0 0", "65535 0 65534 9", "9 9 8 8"} {
		wantFault(t, "role a = 1; region a = "+box+";", api.ErrRange, 1, 13)
		wantFault(t, "region a = 0 0 1 1 + "+box+";", api.ErrRange, 1, 1)
		wantFault(t, "region a = "+box+" + 0 0 1 1;", api.ErrRange, 1, 1)
		wantFault(t, "region a = 0 0 1 1; region a = "+box+";", api.ErrTwice, 1, 21)
	}
	// What is declared twice is told ahead of what it is.
	wantFault(t, "role a = 1; role a = 9;", api.ErrTwice, 1, 13)
	wantFault(t, "label a = 1; label a = 9;", api.ErrTwice, 1, 14)
}

func TestFaultsOfRules(t *testing.T) {
	wantFault(t, "allow role chef tier any label any in all zoom 1;", api.ErrNone, 1, 12)
	wantFault(t, "label a = 1; region a = 0 0 1 1; cloak role a;", api.ErrNone, 1, 45)
	wantFault(t, "cloak role a; role a = 3;", api.ErrNone, 1, 12)
	wantFault(t, "cloak role 8;", api.ErrRange, 1, 12)
	wantFault(t, "cloak role\n 65535;", api.ErrRange, 2, 2)
	wantFault(t, "cap role 8 tier any label any in all zoom 1;", api.ErrRange, 1, 10)
	for tiers, fine := range map[string]int{"0..7": 1, "7": 1, "7..7": 1, "3..4": 1, "8": 0, "4..3": 0, "7..0": 0, "0..8": 0, "65535..0": 0, "65535": 0, "8..7": 0} {
		s := "role a = 1;\nallow role a tier " + tiers + " label any in all zoom 1;"
		if l, f := rules.Read(s); fine == 1 && (f != (api.Fault{}) || len(l) != 1) {
			t.Errorf("tiers %s: %v, %v", tiers, l, f)
		}
		if fine == 0 {
			wantFault(t, s, api.ErrRange, 2, 1)
		}
	}
	wantFault(t, "role a = 1; region a = 0 0 1 1; cap role a tier any label a in all zoom 1;", api.ErrNone, 1, 59)
	wantFault(t, "cap role any tier any label 8 in all zoom 1;", api.ErrRange, 1, 29)
	wantFault(t, "role a = 1; label a = 1; allow role a tier any label a in a zoom 1;", api.ErrNone, 1, 59)
	wantFault(t, "allow role any tier any label any in a zoom 1; region a = 0 0 1 1;", api.ErrNone, 1, 38)
	wantFault(t, "cap role any tier any label any in all zoom 17;", api.ErrRange, 1, 1)
	wantFault(t, "cloak role 0; cap role any tier any label any in all zoom 65535;", api.ErrRange, 1, 15)
}

func TestFirstFaultOfARule(t *testing.T) {
	// From one to the next, the fault told first is mended.
	for _, c := range []struct {
		s   string
		e   api.Errno
		col int
	}{
		{"allow role b tier 9 label b in b zoom 17;", api.ErrNone, 12},
		{"allow role 8 tier 9 label b in b zoom 17;", api.ErrRange, 12},
		{"allow role 7 tier 9 label b in b zoom 17;", api.ErrRange, 1},
		{"allow role 7 tier 7 label b in b zoom 17;", api.ErrNone, 27},
		{"allow role 7 tier 7 label 8 in b zoom 17;", api.ErrRange, 27},
		{"allow role 7 tier 7 label 7 in b zoom 17;", api.ErrNone, 32},
		{"allow role 7 tier 7 label 7 in c zoom 17;", api.ErrLong, 1},
		{"allow role 7 tier 7 label 7 in d zoom 17;", api.ErrRange, 1},
	} {
		names := "region c = 0 0 0 0" + strings.Repeat("+0 0 0 0", 32) + ";region d=0 0 0 0;\n"
		wantFault(t, names+c.s, c.e, 2, c.col)
		wantFault(t, names+c.s+" role a = 9;", c.e, 2, c.col)
		wantFault(t, names+"cloak role 0;\n"+c.s, c.e, 3, c.col)
		wantFault(t, names+"role x = 8;\n"+c.s, api.ErrRange, 2, 1)
		// That there are too many is told ahead of all.
		l, _ := policy.Parse(c.s)
		l[0].At = at(3, 4)
		l = slices.Concat(slices.Repeat([]api.Decl{{Kind: api.DCloak}}, 32), l)
		wantChecked(t, l, nil, api.Fault{Err: api.ErrLong, At: at(3, 4)})
	}
}

func TestManyRules(t *testing.T) {
	cloaks := strings.Repeat("cloak role 0;\n", 31)
	for _, one := range []string{"cloak role 0;", "cap role 0 tier any label 0 in all zoom 3;"} {
		if l, f := rules.Read(cloaks + one); len(l) != 32 || f != (api.Fault{}) {
			t.Errorf("of 32 rules there are %d, %v", len(l), f)
		}
		wantFault(t, cloaks+"cloak role any; "+one, api.ErrLong, 32, 17)
	}
	// Names are no rules.
	l, _ := policy.Parse("role a = 1; cloak role 0;")
	l = slices.Concat(l[:1], slices.Repeat(l[1:], 32))
	last := api.Decl{Kind: api.DLabel, Name: "b", At: at(9, 9)}
	if got, f := rules.Check(append(l, last)); len(got) != 32 || f != (api.Fault{}) {
		t.Error(len(got), f)
	}
	last.N = 8
	wantChecked(t, append(l, last), nil, api.Fault{Err: api.ErrRange, At: at(9, 9)})
	for range 100 {
		l = append(l, api.Decl{Kind: api.DCloak, At: at(7, len(l))})
	}
	wantChecked(t, l, nil, api.Fault{Err: api.ErrLong, At: at(7, 33)})
}

// everywhere is a rule of a policy in the region of a name.
func everywhere(name string, line int) api.Decl {
	return api.Decl{Kind: api.DCap, Where: api.Who{Name: name, At: at(line, 5)}, At: at(line, 1)}
}

func TestManyBoxes(t *testing.T) {
	region := func(name string, n int) api.Decl {
		return api.Decl{Kind: api.DRegion, Name: name, Boxes: make([]api.Rect, n)}
	}
	all := api.Decl{Kind: api.DAllow, Where: api.Who{Any: true}, At: at(8, 8)}
	head := []api.Decl{region("full", 32), region("over", 33), region("most", 31), region("half", 16), region("long", 3000)}
	for i, c := range []struct {
		rules []api.Decl
		line  int
	}{
		{[]api.Decl{everywhere("full", 1)}, 0},
		{[]api.Decl{everywhere("over", 1)}, 1},
		{[]api.Decl{everywhere("long", 1)}, 1},
		{[]api.Decl{everywhere("most", 1), all}, 0},
		{[]api.Decl{everywhere("most", 1), all, everywhere("half", 3)}, 3},
		{[]api.Decl{everywhere("full", 1), all}, 8},
		{[]api.Decl{everywhere("half", 1), everywhere("half", 2)}, 0},
		{[]api.Decl{everywhere("half", 1), everywhere("half", 2), everywhere("half", 3)}, 3},
		{[]api.Decl{everywhere("half", 1), everywhere("most", 2), everywhere("half", 3)}, 2},
		{[]api.Decl{everywhere("full", 1), {Kind: api.DCloak}, region("x", 40), {Kind: api.DCloak}}, 0},
		{slices.Repeat([]api.Decl{all}, 32), 0},
	} {
		l := slices.Concat(head, c.rules)
		want, f := checked(l)
		if f.At.Line != c.line || f.Err != api.ErrLong && c.line > 0 {
			t.Errorf("of the one at %d the model has %v", i, f)
		}
		wantChecked(t, l, want, f)
	}
}

func TestDeclarationsThatMayNotBe(t *testing.T) {
	fine := api.Decl{Kind: api.DRole, Name: "a", At: at(1, 1)}
	for _, d := range []api.Decl{
		{}, {Kind: 7}, {Kind: api.DRole}, {Kind: api.DRole, Name: "role"}, {Kind: api.DRole, Name: "a", N: -1}, {Kind: api.DRole, Name: "a", N: 65536},
		{Kind: api.DRegion, Name: "a"}, {Kind: api.DRegion, Name: "a", Boxes: []api.Rect{{X0: -1}}}, {Kind: api.DAllow}, {Kind: api.DAllow, Where: api.Who{N: 3}},
		{Kind: api.DCap, Where: api.Who{Any: true}, Lo: -1}, {Kind: api.DCap, Where: api.Who{Any: true}, Zoom: -1}, {Kind: api.DCloak, Role: api.Who{N: -1}},
		{Kind: api.DCloak, Hi: 7}, {Kind: api.DCloak, Zoom: 3}, {Kind: api.DCap, Where: api.Who{Any: true}, Role: api.Who{Any: true, N: 1}},
	} {
		d.At = at(2, 2)
		// Wherever it stands, this is told ahead of all, and without a place.
		twice := []api.Decl{fine, fine, d}
		wantChecked(t, []api.Decl{d}, nil, api.Fault{Err: api.ErrArg})
		wantChecked(t, twice, nil, api.Fault{Err: api.ErrArg})
		wantChecked(t, []api.Decl{d, fine, fine}, nil, api.Fault{Err: api.ErrArg})
	}
	wantChecked(t, nil, nil, api.Fault{})
	wantChecked(t, []api.Decl{}, nil, api.Fault{})
	wantChecked(t, []api.Decl{fine, fine}, nil, api.Fault{Err: api.ErrTwice, At: at(1, 1)})
	// Places may be any.
	fine.At, fine.N = at(-7, 1<<40), 9
	wantChecked(t, []api.Decl{fine}, nil, api.Fault{Err: api.ErrRange, At: at(-7, 1<<40)})
}

// TestCheckAgainstAModel holds what is checked against the document's words.
func TestCheckAgainstAModel(t *testing.T) {
	r := rand.New(rand.NewSource(1))
	errs, most := map[api.Errno]int{}, 0
	for range 10000 {
		l := someDecls(r)
		want, f := checked(l)
		errs[f.Err]++
		most = max(most, len(want))
		wantChecked(t, l, want, f)
		if s := policy.Print(l); len(s) <= api.MaxSource {
			got, g := rules.Read(s)
			parsed, _ := policy.Parse(s)
			again, h := checked(parsed)
			if !same(got, again) || g != h || g.Err != f.Err {
				t.Fatalf("Read(%q) = %+v, %v, want %+v, %v", s, got, g, again, h)
			}
		}
		if t.Failed() {
			t.FailNow()
		}
	}
	if errs[api.OK] < 4000 || errs[api.ErrLong] < 200 || errs[api.ErrTwice] < 50 || errs[api.ErrNone] < 500 || errs[api.ErrRange] < 500 || most < 25 {
		t.Error("there were too few of some kind:", errs, most)
	}
}

// P12.2

func TestRight(t *testing.T) {
	boxes := []api.Rect{rc(1, 2, 3, 4), grid()}
	for _, x := range []api.Rule{
		{Kind: api.DCloak}, {Kind: api.DCloak, Roles: 255}, {Kind: api.DCloak, Roles: 1, Boxes: []api.Rect{}},
		{Kind: api.DAllow}, {Kind: api.DCap}, {Kind: api.DAllow, Roles: 255, Lo: 7, Hi: 7, Labels: 255, Boxes: boxes, Zoom: 16},
		{Kind: api.DCap, Roles: 1, Lo: 0, Hi: 7, Labels: 1, Boxes: slices.Repeat(boxes, 100)}, {Kind: api.DCap, Boxes: []api.Rect{}},
	} {
		if !rules.Right([]api.Rule{x}) || !rules.Right(slices.Repeat([]api.Rule{x}, 100)) || !mayBe(x) {
			t.Errorf("it may not be: %+v", x)
		}
	}
	for _, x := range []api.Rule{
		{}, {Kind: -1}, {Kind: 7}, {Kind: api.DRole}, {Kind: api.DLabel}, {Kind: api.DRegion, Boxes: boxes}, {Kind: 1 << 40},
		{Kind: api.DCloak, Roles: -1}, {Kind: api.DCloak, Roles: 256}, {Kind: api.DAllow, Roles: -1}, {Kind: api.DCap, Roles: 256}, {Kind: api.DCap, Roles: -1 << 63},
		{Kind: api.DCloak, Lo: 1}, {Kind: api.DCloak, Hi: 7}, {Kind: api.DCloak, Labels: 1}, {Kind: api.DCloak, Boxes: boxes}, {Kind: api.DCloak, Zoom: 1},
		{Kind: api.DCloak, Lo: 1, Hi: 1}, {Kind: api.DCloak, Zoom: -1}, {Kind: api.DCloak, Labels: -1}, {Kind: api.DCloak, Lo: -1},
		{Kind: api.DAllow, Lo: -1}, {Kind: api.DAllow, Lo: 1}, {Kind: api.DAllow, Lo: 4, Hi: 3}, {Kind: api.DAllow, Hi: 8}, {Kind: api.DAllow, Lo: 8, Hi: 8}, {Kind: api.DAllow, Lo: -1, Hi: -1}, {Kind: api.DAllow, Hi: -1},
		{Kind: api.DCap, Labels: -1}, {Kind: api.DCap, Labels: 256}, {Kind: api.DCap, Zoom: -1}, {Kind: api.DCap, Zoom: 17},
		{Kind: api.DCap, Boxes: []api.Rect{{X0: 1}}}, {Kind: api.DCap, Boxes: []api.Rect{{}, {X1: api.Side}}}, {Kind: api.DCap, Boxes: []api.Rect{{Y0: -1}, {}}}, {Kind: api.DAllow, Boxes: []api.Rect{{Y1: -1}}},
	} {
		fine := api.Rule{Kind: api.DAllow}
		for _, l := range [][]api.Rule{{x}, {fine, x}, {x, fine}} {
			if rules.Right(l) || mayBe(x) {
				t.Errorf("it may be: %+v", x)
			}
		}
		for n := range 8 {
			if rules.For(x, n, n, n) || rules.For(x, n, 0, 0) {
				t.Errorf("it is for %d: %+v", n, x)
			}
		}
	}
	if !rules.Right(nil) || !rules.Right([]api.Rule{}) {
		t.Error("no rules may not be")
	}
}

// odd are no numbers of roles, tiers or labels.
func odd() []int { return []int{-1, 8, 9, 63, 64, 65, 255, 256, -8, 1 << 40, -1 << 63, 1<<63 - 1} }

func TestFor(t *testing.T) {
	x := api.Rule{Kind: api.DAllow, Roles: 1<<0 | 1<<3 | 1<<7, Lo: 2, Hi: 4, Labels: 1<<1 | 1<<6}
	for role := range 8 {
		for tier := range 8 {
			for label := range 8 {
				want := (role == 0 || role == 3 || role == 7) && tier >= 2 && tier <= 4 && (label == 1 || label == 6)
				if got := rules.For(x, role, tier, label); got != want {
					t.Errorf("for %d %d %d: %v", role, tier, label, got)
				}
				if rules.For(api.Rule{Kind: api.DCloak, Roles: 255}, role, tier, label) {
					t.Error("a cloak is for", role, tier, label)
				}
			}
		}
	}
	x = api.Rule{Kind: api.DCap, Roles: 255, Hi: 7, Labels: 255}
	for _, n := range odd() {
		if rules.For(x, n, 0, 0) || rules.For(x, 0, n, 0) || rules.For(x, 0, 0, n) || rules.For(x, n, n, n) {
			t.Error("it is for", n)
		}
	}
	r := rand.New(rand.NewSource(2))
	yes := 0
	for range 4000 {
		x := someRule(r, 4+r.Intn(3))
		if r.Intn(3) == 0 {
			x = turned(r, x)
		}
		role, tier, label := r.Intn(10)-1, r.Intn(10)-1, r.Intn(10)-1
		want := mayBe(x) && isFor(x, role, tier, label)
		if rules.For(x, role, tier, label) != want {
			t.Fatalf("%+v: for %d %d %d is not %v", x, role, tier, label, want)
		}
		if want {
			yes++
		}
	}
	if yes < 100 {
		t.Error("so few were for someone:", yes)
	}
}

func TestZoom(t *testing.T) {
	everyone := func(kind, zoom int, boxes ...api.Rect) api.Rule {
		return api.Rule{Kind: kind, Roles: 255, Hi: 7, Labels: 255, Boxes: boxes, Zoom: zoom}
	}
	box := rc(4, 4, 9, 9)
	for i, c := range []struct {
		l    []api.Rule
		zoom int
	}{
		{nil, 0}, {[]api.Rule{}, 0},
		{[]api.Rule{everyone(api.DAllow, 16, box)}, 16},
		{[]api.Rule{everyone(api.DAllow, 0, box)}, 0},
		{[]api.Rule{everyone(api.DAllow, 5)}, 0},
		{[]api.Rule{everyone(api.DAllow, 5, rc(0, 0, 3, 3), rc(5, 5, 5, 5))}, 5},
		{[]api.Rule{everyone(api.DAllow, 5, rc(0, 0, 4, 4), rc(6, 5, 9, 9))}, 0},
		{[]api.Rule{everyone(api.DAllow, 5, box), everyone(api.DAllow, 9, box), everyone(api.DAllow, 7, box)}, 9},
		{[]api.Rule{everyone(api.DCap, 5, box)}, 0},
		{[]api.Rule{everyone(api.DAllow, 9, box), everyone(api.DCap, 5, box)}, 5},
		{[]api.Rule{everyone(api.DAllow, 9, box), everyone(api.DCap, 9, box)}, 9},
		{[]api.Rule{everyone(api.DAllow, 9, box), everyone(api.DCap, 12, box)}, 9},
		{[]api.Rule{everyone(api.DAllow, 9, box), everyone(api.DCap, 0, box)}, 0},
		{[]api.Rule{everyone(api.DCap, 5, box), everyone(api.DAllow, 9, box), everyone(api.DCap, 3, grid()), everyone(api.DCap, 4, box)}, 3},
		{[]api.Rule{everyone(api.DAllow, 9, box), everyone(api.DCap, 5, rc(6, 6, 9, 9))}, 9},
		{[]api.Rule{everyone(api.DAllow, 9, box), {Kind: api.DCloak, Roles: 255}}, 9},
		{[]api.Rule{everyone(api.DAllow, 9, box), {Kind: api.DCap, Roles: 255 - 8, Hi: 7, Labels: 255, Boxes: []api.Rect{box}, Zoom: 1}}, 9},
		{[]api.Rule{everyone(api.DAllow, 9, box), {Kind: api.DCap, Roles: 8, Lo: 5, Hi: 5, Labels: 1, Boxes: []api.Rect{box}, Zoom: 1}}, 1},
		// One that may not be is enough.
		{[]api.Rule{everyone(api.DAllow, 9, box), {Kind: api.DCloak, Zoom: 1}}, 0},
		{[]api.Rule{everyone(api.DAllow, 9, box), everyone(api.DAllow, 17, box)}, 0},
		{[]api.Rule{{}, everyone(api.DAllow, 9, box)}, 0},
		{[]api.Rule{everyone(api.DAllow, 9, box, rc(1, 0, 0, 0))}, 0},
	} {
		if z := rules.Zoom(c.l, 3, 5, 0, pt(5, 5)); z != c.zoom || zoomOf(c.l, 3, 5, 0, pt(5, 5)) != c.zoom {
			t.Errorf("the zoom at %d is %d, want %d", i, z, c.zoom)
		}
	}
	l := []api.Rule{everyone(api.DAllow, 9, grid())}
	for _, n := range odd() {
		if rules.Zoom(l, n, 0, 0, pt(0, 0)) != 0 || rules.Zoom(l, 0, n, 0, pt(0, 0)) != 0 || rules.Zoom(l, 0, 0, n, pt(0, 0)) != 0 {
			t.Error("there is a zoom for", n)
		}
	}
	for _, p := range []api.Point{pt(-1, 0), pt(0, -1), pt(api.Side, 0), pt(0, api.Side), pt(-1<<63, 0), pt(0, 1<<63-1)} {
		if rules.Zoom(l, 0, 0, 0, p) != 0 {
			t.Error("there is a zoom of", p)
		}
	}
	if rules.Zoom(l, 0, 0, 0, pt(last, last)) != 9 || rules.Zoom(l, 7, 7, 7, pt(0, last)) != 9 {
		t.Error("a corner has no zoom")
	}
}

func TestZoomAgainstAModel(t *testing.T) {
	r := rand.New(rand.NewSource(3))
	zooms, wrong := [17]int{}, 0
	for range 12000 {
		l := someRules(r, 12)
		if len(l) > 0 && r.Intn(8) == 0 {
			i := r.Intn(len(l))
			l[i] = turned(r, l[i])
		}
		if slices.ContainsFunc(l, func(x api.Rule) bool { return !mayBe(x) }) {
			wrong++
		}
		for range 5 {
			role, tier, label, p := seldom(r, 7, -1, 8), seldom(r, 7, -1, 8), seldom(r, 7, -1, 8), pt(r.Intn(13)-1, r.Intn(13)-1)
			want := zoomOf(l, role, tier, label, p)
			if z := rules.Zoom(l, role, tier, label, p); z != want {
				t.Fatalf("%+v: for %d %d %d, %v the zoom is %d, want %d", l, role, tier, label, p, z, want)
			}
			zooms[want]++
		}
	}
	if slices.Min(zooms[:]) < 100 || wrong < 500 {
		t.Error("there were too few of some kind:", zooms, wrong)
	}
}

func TestCloaks(t *testing.T) {
	l := []api.Rule{{Kind: api.DAllow, Roles: 255, Hi: 7, Labels: 255, Boxes: []api.Rect{grid()}, Zoom: 16}, {Kind: api.DCloak, Roles: 1<<2 | 1<<7}, {Kind: api.DCap, Roles: 16}, {Kind: api.DCloak, Roles: 1}}
	for role := range 8 {
		if want := role == 0 || role == 2 || role == 7; rules.Cloaks(l, role) != want {
			t.Errorf("whether %d may cloak is not %v", role, want)
		}
		if rules.Cloaks(l[:1], role) || rules.Cloaks(nil, role) {
			t.Errorf("%d may cloak", role)
		}
		for _, bad := range []api.Rule{{}, {Kind: api.DCloak, Roles: 256}, {Kind: api.DCloak, Roles: 255, Hi: 7}, {Kind: api.DAllow, Zoom: 17}} {
			if rules.Cloaks(append(slices.Clone(l), bad), role) || rules.Cloaks([]api.Rule{bad, {Kind: api.DCloak, Roles: 255}}, role) {
				t.Errorf("%d may cloak, by what may not be: %+v", role, bad)
			}
		}
	}
	for _, n := range odd() {
		if rules.Cloaks([]api.Rule{{Kind: api.DCloak, Roles: 255}}, n) {
			t.Error("a role that is none may cloak:", n)
		}
	}
}

// P12.3

func TestOrderOfRules(t *testing.T) {
	r := rand.New(rand.NewSource(4))
	for range 2000 {
		l := someRules(r, 8)
		other := slices.Clone(l)
		r.Shuffle(len(other), func(i, j int) { other[i], other[j] = other[j], other[i] })
		for range 10 {
			role, tier, label, p := r.Intn(8), r.Intn(8), r.Intn(8), pt(r.Intn(12), r.Intn(12))
			if rules.Zoom(l, role, tier, label, p) != rules.Zoom(other, role, tier, label, p) {
				t.Fatalf("%+v and %+v: for %d %d %d, %v", l, other, role, tier, label, p)
			}
		}
	}
}

// P12.4

func TestOneRuleMore(t *testing.T) {
	r := rand.New(rand.NewSource(5))
	up, down := 0, 0
	for range 4000 {
		l := someRules(r, 6)
		allowed := slices.Insert(slices.Clone(l), r.Intn(len(l)+1), someRule(r, api.DAllow))
		capped := slices.Insert(slices.Clone(l), r.Intn(len(l)+1), someRule(r, api.DCap))
		for range 10 {
			role, tier, label, p := r.Intn(8), r.Intn(8), r.Intn(8), pt(r.Intn(12), r.Intn(12))
			z := rules.Zoom(l, role, tier, label, p)
			more, less := rules.Zoom(allowed, role, tier, label, p), rules.Zoom(capped, role, tier, label, p)
			if more < z || less > z {
				t.Fatalf("%+v: for %d %d %d, %v: %d, then %d and %d", l, role, tier, label, p, z, more, less)
			}
			up, down = up+more-z, down+z-less
		}
	}
	if up < 500 || down < 100 {
		t.Error("rules did too little:", up, down)
	}
}

// P12.5

func TestWhatIsCheckedMayBe(t *testing.T) {
	r := rand.New(rand.NewSource(6))
	fine := 0
	for range 6000 {
		l := someDecls(r)
		got, f := rules.Check(l)
		if f != (api.Fault{}) {
			continue
		}
		n := 0
		for _, d := range l {
			if isRule(d) {
				n++
			}
		}
		if !rules.Right(got) || len(got) != n {
			t.Fatalf("of %d rules there are %d, %v: %+v", n, len(got), rules.Right(got), got)
		}
		fine += min(n, 1)
	}
	if fine < 1000 {
		t.Error("so few were checked:", fine)
	}
}

// Rules that hold everywhere

func TestWhatIsAnsweredIsNewMemory(t *testing.T) {
	l, _ := policy.Parse("region a = 1 2 3 4 + 5 6 7 8; cap role any tier any label any in a zoom 3; allow role any tier any label any in a zoom 4; cap role 0 tier 0 label 0 in all zoom 1;")
	kept := slices.Clone(l)
	kept[0].Boxes = slices.Clone(l[0].Boxes)
	want, _ := checked(l)
	got, f := rules.Check(l)
	if f != (api.Fault{}) || len(got) != 3 {
		t.Fatal(got, f)
	}
	_ = append(got[0].Boxes, rc(9, 9, 9, 9))
	clear(got[0].Boxes)
	if !slices.Equal(got[1].Boxes, want[1].Boxes) || !reflect.DeepEqual(l, kept) {
		t.Error("two rules, or a rule and a declaration, share memory:", got, l)
	}
	clear(got[1].Boxes)
	clear(got[2].Boxes)
	wantChecked(t, l, want, api.Fault{})
	again, _ := rules.Check(l)
	clear(l[0].Boxes)
	if !same(again, want) {
		t.Error("rules share memory with the declarations:", again)
	}
}

func TestWhatIsHandedInIsNotChanged(t *testing.T) {
	r := rand.New(rand.NewSource(7))
	for range 1000 {
		l, x := someDecls(r), someRules(r, 5)
		kl, kx := slices.Clone(l), slices.Clone(x)
		for i := range l {
			kl[i].Boxes = slices.Clone(l[i].Boxes)
		}
		for i := range x {
			kx[i].Boxes = slices.Clone(x[i].Boxes)
		}
		rules.Check(l)
		rules.Right(x)
		rules.Zoom(x, 1, 2, 3, pt(4, 5))
		rules.Cloaks(x, 3)
		if !reflect.DeepEqual(l, kl) || !reflect.DeepEqual(x, kx) {
			t.Fatalf("%+v, %+v were %+v, %+v", l, x, kl, kx)
		}
	}
}

func TestAskedByMany(t *testing.T) {
	s := "role nurse = 3; region a = 0 0 9 9; cap role any tier any label any in a zoom 3; allow role nurse tier 1..4 label any in all zoom 12;"
	l, _ := policy.Parse(s)
	want, _ := checked(l)
	var all sync.WaitGroup
	for range 4 {
		all.Go(func() {
			for range 200 {
				wantRead(t, s, want, api.Fault{})
				if !rules.Right(want) || rules.Zoom(want, 3, 2, 1, pt(9, 9)) != 3 || rules.Zoom(want, 3, 2, 1, pt(10, 9)) != 12 || rules.Cloaks(want, 3) {
					t.Error("not as alone")
				}
			}
		})
	}
	all.Wait()
}

// P1

func FuzzRead(f *testing.F) {
	r := rand.New(rand.NewSource(8))
	for range 60 {
		f.Add(policy.Print(someDecls(r)), r.Intn(8), r.Intn(8), r.Intn(8), r.Intn(12), r.Intn(12))
	}
	f.Fuzz(func(t *testing.T, s string, role, tier, label, x, y int) {
		got, fault := rules.Read(s)
		if l, f := policy.Parse(s); f != (api.Fault{}) {
			if len(got) != 0 || fault != f {
				t.Error(got, fault, f)
			}
			return
		} else if want, f := checked(l); !same(got, want) || fault != f {
			t.Errorf("Read(%q) = %+v, %v, want %+v, %v", s, got, fault, want, f)
		}
		if z := rules.Zoom(got, role, tier, label, pt(x, y)); z != zoomOf(got, role, tier, label, pt(x, y)) {
			t.Errorf("of %q the zoom is %d", s, z)
		}
	})
}

func FuzzRules(f *testing.F) {
	f.Add(api.DAllow, 255, 0, 7, 255, 0, 0, 9, 9, 5, 3, 2, 1, 4, 4)
	f.Add(api.DCloak, 255, 0, 0, 0, 0, 0, 9, 9, 0, 3, 2, 1, 4, 4)
	f.Add(api.DCap, 256, 3, 2, -1, 1<<62, -1, 9, 9, 17, 64, -64, 8, -1, 65536)
	f.Fuzz(func(t *testing.T, kind, roles, lo, hi, labels, x0, y0, x1, y1, zoom, role, tier, label, x, y int) {
		one := api.Rule{Kind: kind, Roles: roles, Lo: lo, Hi: hi, Labels: labels, Boxes: []api.Rect{rc(x0, y0, x1, y1)}, Zoom: zoom}
		bare := one
		bare.Boxes = nil
		for _, l := range [][]api.Rule{{one}, {bare}, {one, {Kind: api.DCloak, Roles: 5}, {Kind: api.DAllow, Roles: 255, Hi: 7, Labels: 255, Boxes: []api.Rect{grid()}, Zoom: 12}}} {
			fine := !slices.ContainsFunc(l, func(r api.Rule) bool { return !mayBe(r) })
			may := fine && slices.ContainsFunc(l, func(r api.Rule) bool {
				return r.Kind == api.DCloak && isFor(api.Rule{Roles: r.Roles, Labels: 1}, role, 0, 0)
			})
			want := 0
			if x >= 0 && x < api.Side && y >= 0 && y < api.Side {
				want = zoomOf(l, role, tier, label, pt(x, y))
			}
			if rules.Right(l) != fine || rules.Cloaks(l, role) != may || rules.Zoom(l, role, tier, label, pt(x, y)) != want {
				t.Errorf("%+v: %v, %v, %d", l, rules.Right(l), rules.Cloaks(l, role), rules.Zoom(l, role, tier, label, pt(x, y)))
			}
			if rules.For(l[0], role, tier, label) != (mayBe(l[0]) && isFor(l[0], role, tier, label)) {
				t.Errorf("%+v is not for %d %d %d as it should", l[0], role, tier, label)
			}
		}
	})
}
