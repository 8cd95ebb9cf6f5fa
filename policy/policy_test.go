package policy_test

import (
	"math/rand"
	"reflect"
	"slices"
	"strings"
	"sync"
	"testing"

	"paravent/api"
	"paravent/lex"
	"paravent/policy"
)

func at(line, col int) api.Pos { return api.Pos{Line: line, Col: col} }

func wantFault(t *testing.T, s string, e api.Errno, line, col int) {
	t.Helper()
	wantParsed(t, s, nil, api.Fault{Err: e, At: at(line, col)})
	if l, f := parsed(s); len(l) != 0 || f != (api.Fault{Err: e, At: at(line, col)}) {
		t.Errorf("of %q the model has %v, %v", s, l, f)
	}
}

func wantDecls(t *testing.T, s string, want ...api.Decl) {
	t.Helper()
	wantParsed(t, s, want, api.Fault{})
	if l, f := parsed(s); !same(l, want) || f != (api.Fault{}) {
		t.Errorf("of %q the model has %v, %v", s, l, f)
	}
}

// P11.1

func TestExamples(t *testing.T) {
	l, f := policy.Parse("cap role any tier 0..7 label 2 in all zoom 8 ;")
	if f != (api.Fault{}) || policy.Print(l) != "cap role any tier any label 2 in all zoom 8;\n" {
		t.Error(l, f, policy.Print(l))
	}
	wantFault(t, "role = 3;", api.ErrParse, 1, 6)
}

func TestNoDeclarations(t *testing.T) {
	for _, s := range []string{"", " ", "\n\n", "# role a = 3;", "#\n"} {
		wantDecls(t, s)
	}
}

func TestRolesAndLabels(t *testing.T) {
	wantDecls(t, "role nurse = 3;", api.Decl{Kind: api.DRole, Name: "nurse", N: 3, At: at(1, 1)})
	wantDecls(t, " label\nx=0 ;", api.Decl{Kind: api.DLabel, Name: "x", At: at(1, 2)})
	wantDecls(t, "role a=65535;role a=8;label a=7;",
		api.Decl{Kind: api.DRole, Name: "a", N: 65535, At: at(1, 1)},
		api.Decl{Kind: api.DRole, Name: "a", N: 8, At: at(1, 14)},
		api.Decl{Kind: api.DLabel, Name: "a", N: 7, At: at(1, 23)})
}

func TestRegions(t *testing.T) {
	wantDecls(t, "region ward = 0 1 2 3;",
		api.Decl{Kind: api.DRegion, Name: "ward", Boxes: []api.Rect{{X0: 0, Y0: 1, X1: 2, Y1: 3}}, At: at(1, 1)})
	// What a box may be is not asked here.
	wantDecls(t, "#\nregion b = 9 8 7 6 + 0 0 65535 65535+\n1 2 3 4;", api.Decl{Kind: api.DRegion, Name: "b", At: at(2, 1), Boxes: []api.Rect{
		{X0: 9, Y0: 8, X1: 7, Y1: 6}, {X1: 65535, Y1: 65535}, {X0: 1, Y0: 2, X1: 3, Y1: 4}}})
	// Many boxes: as many as a text has room for.
	s := "region b=0 0 0 0" + strings.Repeat("+0 0 0 0", 61) + ";"
	wantDecls(t, s, api.Decl{Kind: api.DRegion, Name: "b", At: at(1, 1), Boxes: make([]api.Rect, 62)})
}

func TestRules(t *testing.T) {
	wantDecls(t, "allow role nurse tier 1..4 label any in ward zoom 12;", api.Decl{Kind: api.DAllow, At: at(1, 1),
		Role: api.Who{Name: "nurse", At: at(1, 12)}, Lo: 1, Hi: 4, Label: api.Who{Any: true, At: at(1, 34)},
		Where: api.Who{Name: "ward", At: at(1, 41)}, Zoom: 12})
	wantDecls(t, "cap role any tier any label x in all zoom 0;", api.Decl{Kind: api.DCap, At: at(1, 1),
		Role: api.Who{Any: true, At: at(1, 10)}, Lo: 0, Hi: 7, Label: api.Who{Name: "x", At: at(1, 29)},
		Where: api.Who{Any: true, At: at(1, 34)}})
	// Numbers too great for a role, a tier, a label and a zoom, and tiers the wrong way round: that is not asked here.
	wantDecls(t, "\n cap role 8\ntier 9 .. 2 label 65535 in a zoom 17;", api.Decl{Kind: api.DCap, At: at(2, 2),
		Role: api.Who{N: 8, At: at(2, 11)}, Lo: 9, Hi: 2, Label: api.Who{N: 65535, At: at(3, 19)},
		Where: api.Who{Name: "a", At: at(3, 28)}, Zoom: 17})
	for tiers, want := range map[string][2]int{"any": {0, 7}, "0": {0, 0}, "7": {7, 7}, "3": {3, 3}, "0..7": {0, 7}, "3..3": {3, 3},
		"65535": {65535, 65535}, "65535..0": {65535, 0}, "1..2": {1, 2}} {
		l, f := policy.Parse("allow role 0 tier " + tiers + " label 0 in all zoom 1;")
		if f != (api.Fault{}) || len(l) != 1 || l[0].Lo != want[0] || l[0].Hi != want[1] {
			t.Errorf("tiers %s: %v, %v", tiers, l, f)
		}
	}
}

func TestCloaks(t *testing.T) {
	wantDecls(t, "cloak role any;", api.Decl{Kind: api.DCloak, Role: api.Who{Any: true, At: at(1, 12)}, At: at(1, 1)})
	wantDecls(t, "cloak role a ; cloak role 0;",
		api.Decl{Kind: api.DCloak, Role: api.Who{Name: "a", At: at(1, 12)}, At: at(1, 1)},
		api.Decl{Kind: api.DCloak, Role: api.Who{At: at(1, 27)}, At: at(1, 16)})
}

func TestFaultsOfTokens(t *testing.T) {
	// These come first, wherever they stand.
	wantFault(t, "role = 3; !", api.ErrChar, 1, 11)
	wantFault(t, "role = 3; \n007", api.ErrNumber, 2, 1)
	wantFault(t, "role = 3; abcdefghijklmnopq", api.ErrLong, 1, 11)
	wantFault(t, "role = 3;"+strings.Repeat(" ", 504), api.ErrLong, 1, 1)
	wantFault(t, "role a = 65536;", api.ErrNumber, 1, 10)
	wantFault(t, "region a = 0 0 1 -1;", api.ErrChar, 1, 18)
	wantFault(t, "role Nurse = 1;", api.ErrChar, 1, 6)
	wantFault(t, "allow role any tier 1.4 label any in all zoom 3;", api.ErrChar, 1, 22)
}

func TestFaultAtATokenThatCannotFollow(t *testing.T) {
	for _, c := range []struct {
		s   string
		col int
	}{
		{"nurse = 3;", 1}, {";", 1}, {"3;", 1}, {"= a;", 1}, {"any;", 1}, {"all;", 1}, {"tier any;", 1}, {"in all;", 1}, {"zoom 3;", 1}, {"..", 1}, {"+", 1},
		{"role a = 3;;", 12}, {"role a = 3; a", 13}, {"role a = 3; 3", 13},
		{"role 3 = 3;", 6}, {"role role = 3;", 6}, {"role any = 3;", 6}, {"role ;", 6}, {"label zoom = 3;", 7}, {"role a 3;", 8}, {"role a;", 7},
		{"role a = b;", 10}, {"role a = any;", 10}, {"role a = ;", 10}, {"role a == 3;", 9}, {"role a = 3 4;", 12}, {"role a = 3..4;", 11}, {"role a = 3 role b = 4;", 12},
		{"label x = 1 + 2;", 13}, {"label x + 1;", 9},
		{"region a = ;", 12}, {"region all = 0 0 1 1;", 8}, {"region a = 1;", 13}, {"region a = 1 2 3;", 17}, {"region a = 1 2 3 4 5;", 20},
		{"region a = 1 2 3 + 4;", 18}, {"region a = 1 2 3 4 +;", 21}, {"region a = 1 2 3 4 + 5 6 7;", 27}, {"region a = 1 2 3 4 + + 5 6 7 8;", 22},
		{"region a = 1 2 3 4 + b;", 22}, {"region a = b;", 12}, {"region a = 1 2 3 4 + 5 6 7 8 9;", 30}, {"region a = all;", 12}, {"region a = + 1 2 3 4;", 12},
		{"allow any;", 7}, {"allow role ;", 12}, {"allow role all tier any label any in all zoom 3;", 12}, {"allow role a label any in all zoom 3;", 14},
		{"allow role a b tier any", 14}, {"allow role 1..2 tier any", 13}, {"allow role tier any", 12}, {"allow label any", 7},
		{"allow role a tier b label any", 19}, {"allow role a tier all label any", 19}, {"allow role a tier ..3 label any", 19}, {"allow role a tier 1.. label any", 23},
		{"allow role a tier 1..any label any", 22}, {"allow role a tier any..3 label any", 22}, {"allow role a tier 1..2..3 label any", 23}, {"allow role a tier 1 2 label any", 21},
		{"allow role a tier any label all", 29}, {"allow role a tier any label ;", 29}, {"allow role a tier any in all", 23},
		{"allow role a tier any label any in any", 36}, {"allow role a tier any label any in 3", 36}, {"allow role a tier any label any zoom 3", 33},
		{"allow role a tier any label any in all 3", 40}, {"allow role a tier any label any in all ;", 40},
		{"allow role a tier any label any in all zoom any", 45}, {"allow role a tier any label any in all zoom a", 45}, {"allow role a tier any label any in all zoom ;", 45},
		{"allow role a tier any label any in all zoom 3..4;", 46}, {"cap role a tier any label any in b + c zoom 3;", 36},
		{"cloak any;", 7}, {"cloak role all;", 12}, {"cloak role;", 11}, {"cloak role any any;", 16}, {"cloak role 3 tier any;", 14}, {"cloak label any;", 7},
		{"cloak role any in all zoom 3;", 16}, {"cap cap role any", 5}, {"allow cloak role any", 7},
	} {
		wantFault(t, c.s, api.ErrParse, 1, c.col)
		wantFault(t, c.s+" role ; 3", api.ErrParse, 1, c.col) // the first one counts
		wantFault(t, "role a = 3;\n"+c.s, api.ErrParse, 2, c.col)
	}
}

func TestFaultAtTheEnd(t *testing.T) {
	for _, whole := range []string{
		"role a = 3;", "label b = 4;", "region c = 1 2 3 4;", "region c = 1 2 3 4 + 5 6 7 8 + 9 10 11 12;",
		"allow role a tier 1..4 label any in all zoom 3;", "cap role any tier any label 3 in b zoom 16;", "cloak role any;",
	} {
		tokens, _ := lex.Tokens(whole)
		if _, f := policy.Parse(whole); f != (api.Fault{}) {
			t.Errorf("of %q: %v", whole, f)
		}
		for _, k := range tokens[1:] {
			s := whole[:k.At.Col-1]
			wantFault(t, s, api.ErrParse, 1, len(s)+1)
			wantFault(t, s+"  # remark", api.ErrParse, 1, len(s)+11)
			wantFault(t, whole+"\n\n"+s+"\n", api.ErrParse, 4, 1)
			wantFault(t, whole+"\n"+s+"\n \n# é", api.ErrParse, 4, 5)
		}
	}
}

// TestParseAgainstAModel holds what is read against the document's words.
func TestParseAgainstAModel(t *testing.T) {
	r := rand.New(rand.NewSource(1))
	errs := map[api.Errno]int{}
	for i := range 12000 {
		s := printed(someDecls(r, 6))
		if i%3 > 0 {
			s = broken(r, s)
		}
		s = spread(r, s)
		if i%50 == 0 {
			s = printed(someDecls(r, 20))
		}
		want, f := parsed(s)
		errs[f.Err]++
		wantParsed(t, s, want, f)
	}
	if errs[api.OK] < 2000 || errs[api.ErrParse] < 2000 || errs[api.ErrLong] < 50 {
		t.Error("there were too few of some kind:", errs)
	}
}

// P11.2

func TestRight(t *testing.T) {
	any, a, three := api.Who{Any: true}, api.Who{Name: "a"}, api.Who{N: 3}
	box := []api.Rect{{X0: 1, Y0: 2, X1: 3, Y1: 4}}
	for i, d := range []api.Decl{
		{Kind: api.DRole, Name: "a"}, {Kind: api.DRole, Name: "abcdefghijklmnop", N: 65535}, {Kind: api.DLabel, Name: "a", N: 8},
		{Kind: api.DRole, Name: "a", Boxes: []api.Rect{}},
		{Kind: api.DRegion, Name: "a", Boxes: box}, {Kind: api.DRegion, Name: "a", Boxes: make([]api.Rect, 3000)},
		{Kind: api.DRegion, Name: "a", Boxes: []api.Rect{{X0: 65535, Y0: 65535}}},
		{Kind: api.DAllow, Where: any}, {Kind: api.DAllow, Role: any, Lo: 65535, Hi: 0, Label: a, Where: a, Zoom: 65535},
		{Kind: api.DCap, Role: three, Lo: 3, Hi: 3, Label: three, Where: any}, {Kind: api.DCap, Role: a, Lo: 0, Hi: 7, Label: any, Where: a, Zoom: 17},
		{Kind: api.DCloak}, {Kind: api.DCloak, Role: any}, {Kind: api.DCloak, Role: a}, {Kind: api.DCloak, Role: api.Who{N: 65535}},
		// Places are not asked, not even those of what the kind doesn't have.
		{Kind: api.DRole, Name: "a", At: at(-3, 9), Where: api.Who{At: at(1, 1)}, Role: api.Who{At: at(4, 4)}},
	} {
		if !policy.Right([]api.Decl{d}) || !mayBe(d) {
			t.Errorf("the one at %d may not be: %+v", i, d)
		}
	}
	for i, d := range []api.Decl{
		{}, {Kind: -1}, {Kind: 7}, {Kind: 1 << 40, Name: "a"}, {Kind: 0, Name: "a", N: 3}, {Kind: 7, Role: any},
		{Kind: api.DRole}, {Kind: api.DRole, Name: "role"}, {Kind: api.DRole, Name: "any"}, {Kind: api.DLabel, Name: "A"}, {Kind: api.DLabel, Name: "abcdefghijklmnopq"},
		{Kind: api.DRole, Name: "a "}, {Kind: api.DRole, Name: " a"}, {Kind: api.DRole, Name: "a#"}, {Kind: api.DRole, Name: "a\n"}, {Kind: api.DRole, Name: "3"},
		{Kind: api.DRole, Name: "a = 3; role b", N: 3}, {Kind: api.DRole, Name: strings.Repeat("a", 600)}, {Kind: api.DRole, Name: "#"},
		{Kind: api.DRole, Name: "a", N: -1}, {Kind: api.DRole, Name: "a", N: 65536}, {Kind: api.DLabel, Name: "a", N: -1 << 62},
		{Kind: api.DRole, Name: "a", Boxes: box}, {Kind: api.DRole, Name: "a", Role: any}, {Kind: api.DRole, Name: "a", Role: three}, {Kind: api.DRole, Name: "a", Hi: 7},
		{Kind: api.DRole, Name: "a", Lo: 1}, {Kind: api.DRole, Name: "a", Label: a}, {Kind: api.DRole, Name: "a", Where: any}, {Kind: api.DRole, Name: "a", Zoom: 1},
		{Kind: api.DRegion, Name: "a"}, {Kind: api.DRegion, Name: "a", Boxes: []api.Rect{}}, {Kind: api.DRegion, Boxes: box}, {Kind: api.DRegion, Name: "in", Boxes: box},
		{Kind: api.DRegion, Name: "a", Boxes: box, N: 1}, {Kind: api.DRegion, Name: "a", Boxes: box, Zoom: 1}, {Kind: api.DRegion, Name: "a", Boxes: []api.Rect{{}, {X0: -1}}},
		{Kind: api.DRegion, Name: "a", Boxes: []api.Rect{{Y0: 65536}, {}}}, {Kind: api.DRegion, Name: "a", Boxes: []api.Rect{{X1: 65536}}}, {Kind: api.DRegion, Name: "a", Boxes: []api.Rect{{Y1: -9}}},
		{Kind: api.DAllow}, {Kind: api.DAllow, Where: three}, {Kind: api.DAllow, Where: api.Who{Any: true, Name: "a"}}, {Kind: api.DAllow, Where: api.Who{Any: true, N: 1}},
		{Kind: api.DAllow, Where: api.Who{Name: "a", N: 1}}, {Kind: api.DAllow, Where: api.Who{Name: "all"}}, {Kind: api.DAllow, Where: any, Role: api.Who{Any: true, Name: "any"}},
		{Kind: api.DAllow, Where: any, Role: api.Who{Name: "any"}}, {Kind: api.DAllow, Where: any, Role: api.Who{N: -1}}, {Kind: api.DAllow, Where: any, Role: api.Who{N: 65536}},
		{Kind: api.DAllow, Where: any, Role: api.Who{Name: "a", N: 2}}, {Kind: api.DAllow, Where: any, Role: api.Who{Any: true, N: 2}},
		{Kind: api.DCap, Where: any, Label: api.Who{Any: true, Name: "a"}}, {Kind: api.DCap, Where: any, Label: api.Who{Name: "3"}}, {Kind: api.DCap, Where: any, Label: api.Who{N: 65536}},
		{Kind: api.DCap, Where: any, Lo: -1}, {Kind: api.DCap, Where: any, Lo: 65536}, {Kind: api.DCap, Where: any, Hi: -1}, {Kind: api.DCap, Where: any, Hi: 65536}, {Kind: api.DCap, Where: any, Lo: -1, Hi: -1},
		{Kind: api.DCap, Where: any, Zoom: -1}, {Kind: api.DCap, Where: any, Zoom: 65536}, {Kind: api.DCap, Where: any, Name: "a"}, {Kind: api.DCap, Where: any, N: 1}, {Kind: api.DCap, Where: any, Boxes: box},
		{Kind: api.DCloak, Role: api.Who{N: -1}}, {Kind: api.DCloak, Role: api.Who{Name: "cloak"}}, {Kind: api.DCloak, Role: any, Label: any}, {Kind: api.DCloak, Role: any, Where: any},
		{Kind: api.DCloak, Role: any, Hi: 7}, {Kind: api.DCloak, Role: any, Zoom: 16}, {Kind: api.DCloak, Role: any, Name: "a"}, {Kind: api.DCloak, Role: any, Boxes: box}, {Kind: api.DCloak, N: 3},
	} {
		for _, l := range [][]api.Decl{{d}, {{Kind: api.DCloak}, d}, {d, {Kind: api.DCloak}}} {
			if policy.Right(l) || policy.Print(l) != "" || mayBe(d) {
				t.Errorf("the one at %d may be: %+v; its form is %q", i, d, policy.Print(l))
			}
		}
	}
	if !policy.Right(nil) || !policy.Right([]api.Decl{}) || policy.Print(nil) != "" || policy.Print([]api.Decl{}) != "" {
		t.Error("no declarations may be, and have no text")
	}
}

func TestPrint(t *testing.T) {
	for s, want := range map[string]string{
		"role nurse=3;":                                       "role nurse = 3;\n",
		" label\nx = 0 ; # a remark":                          "label x = 0;\n",
		"region a=1 2 3 4+5 6 7 8;":                           "region a = 1 2 3 4 + 5 6 7 8;\n",
		"allow role 3 tier 1 .. 4 label x in b zoom 12 ;":     "allow role 3 tier 1..4 label x in b zoom 12;\n",
		"cap role any tier 0 .. 7 label 2 in all zoom 8 ;":    "cap role any tier any label 2 in all zoom 8;\n",
		"cap role any tier any label any in all zoom 0;":      "cap role any tier any label any in all zoom 0;\n",
		"cap role a tier 3..3 label any in all zoom 0;":       "cap role a tier 3 label any in all zoom 0;\n",
		"cap role a tier 0 label any in all zoom 0;":          "cap role a tier 0 label any in all zoom 0;\n",
		"cap role a tier 7..7 label any in all zoom 0;":       "cap role a tier 7 label any in all zoom 0;\n",
		"cap role a tier 7..0 label any in all zoom 0;":       "cap role a tier 7..0 label any in all zoom 0;\n",
		"cap role a tier 0..6 label any in all zoom 0;":       "cap role a tier 0..6 label any in all zoom 0;\n",
		"cap role a tier 1..7 label any in all zoom 65535;":   "cap role a tier 1..7 label any in all zoom 65535;\n",
		"cloak role any;cloak role 0;cloak role a;":           "cloak role any;\ncloak role 0;\ncloak role a;\n",
		"role a = 1; cloak role a; role a = 1; label a = 65;": "role a = 1;\ncloak role a;\nrole a = 1;\nlabel a = 65;\n",
		"": "",
	} {
		l, f := policy.Parse(s)
		if got := policy.Print(l); got != want || f != (api.Fault{}) || !policy.Right(l) {
			t.Errorf("the form of %q is %q, want %q; %v, %v", s, got, want, f, policy.Right(l))
		}
	}
}

func TestStrip(t *testing.T) {
	where := at(3, 4)
	full := api.Decl{Kind: -9, Name: "A b", N: -1, Boxes: []api.Rect{{X0: -1}, {Y1: 1 << 40}}, Role: api.Who{Any: true, Name: "x", N: 1, At: where}, Lo: 2, Hi: -3,
		Label: api.Who{Name: "y", N: 2, At: where}, Where: api.Who{Any: true, N: -4, At: where}, Zoom: 99, At: where}
	bare := api.Decl{Kind: -9, Name: "A b", N: -1, Boxes: []api.Rect{{X0: -1}, {Y1: 1 << 40}}, Role: api.Who{Any: true, Name: "x", N: 1}, Lo: 2, Hi: -3,
		Label: api.Who{Name: "y", N: 2}, Where: api.Who{Any: true, N: -4}, Zoom: 99}
	if got := policy.Strip([]api.Decl{full, {}, full}); !same(got, []api.Decl{bare, {}, bare}) {
		t.Errorf("%+v", got)
	}
	if len(policy.Strip(nil)) != 0 || len(policy.Strip([]api.Decl{})) != 0 {
		t.Error("of none there is something")
	}
	r := rand.New(rand.NewSource(2))
	for range 3000 {
		l := placed(r, someDecls(r, 4))
		if len(l) > 0 {
			l[0] = turned(r, l[0])
		}
		if got := policy.Strip(l); !same(got, placeless(l)) {
			t.Fatalf("Strip(%+v) = %+v", l, got)
		}
	}
}

// TestFormAgainstAModel holds what may be, and its form, against the document's words.
func TestFormAgainstAModel(t *testing.T) {
	r := rand.New(rand.NewSource(3))
	wrong := 0
	for range 20000 {
		l := placed(r, someDecls(r, 4))
		if len(l) > 0 && r.Intn(4) > 0 {
			i := r.Intn(len(l))
			l[i] = turned(r, l[i])
		}
		want := !slices.ContainsFunc(l, func(d api.Decl) bool { return !mayBe(d) })
		if !want {
			wrong++
		}
		if policy.Right(l) != want || policy.Print(l) != printed(l) {
			t.Fatalf("of %+v Right is %v, Print %q, want %v, %q", l, policy.Right(l), policy.Print(l), want, printed(l))
		}
	}
	if wrong < 4000 || wrong > 16000 {
		t.Error("those that may not be:", wrong)
	}
}

// P11.3

func TestWhatMayBeIsReadAsItWas(t *testing.T) {
	r := rand.New(rand.NewSource(4))
	long := 0
	for i := range 6000 {
		l := placed(r, someDecls(r, 14))
		if i%3 == 0 && len(l) > 0 {
			l[0] = turned(r, l[0])
		}
		if !policy.Right(l) {
			continue
		}
		s := policy.Print(l)
		got, f := policy.Parse(s)
		if len(s) > api.MaxSource {
			long++
			if len(got) != 0 || f != (api.Fault{Err: api.ErrLong, At: at(1, 1)}) {
				t.Fatalf("of %d bytes: %v, %v", len(s), got, f)
			}
		} else if !same(policy.Strip(got), policy.Strip(l)) || f != (api.Fault{}) {
			t.Fatalf("%+v is written %q, and read %+v, %v", l, s, got, f)
		}
	}
	if long < 20 {
		t.Error("texts that are too long:", long)
	}
	many := []api.Decl{{Kind: api.DRegion, Name: "a", Boxes: make([]api.Rect, 200)}}
	if s := policy.Print(many); s != "region a = "+strings.Repeat("0 0 0 0 + ", 199)+"0 0 0 0;\n" {
		t.Errorf("the form of many boxes is %q", s)
	}
}

// P11.4

func TestTheFormHasTheSameForm(t *testing.T) {
	r := rand.New(rand.NewSource(5))
	for range 4000 {
		l, f := policy.Parse(spread(r, printed(someDecls(r, 5))))
		if f != (api.Fault{}) {
			continue
		}
		s := policy.Print(l)
		again, f := policy.Parse(s)
		if !policy.Right(l) || len(s) <= api.MaxSource && (policy.Print(again) != s || f != (api.Fault{})) {
			t.Fatalf("the form %q has the form %q, %v", s, policy.Print(again), f)
		}
	}
}

// P11.5

func TestTwoTexts(t *testing.T) {
	r := rand.New(rand.NewSource(6))
	both := 0
	for range 4000 {
		one, two := spread(r, printed(someDecls(r, 3))), spread(r, printed(someDecls(r, 3)))
		a, f := policy.Parse(one)
		b, g := policy.Parse(two)
		s := one + "\n" + two
		if f != (api.Fault{}) || g != (api.Fault{}) || len(s) > api.MaxSource {
			continue
		}
		both++
		got, h := policy.Parse(s)
		if !same(policy.Strip(got), policy.Strip(slices.Concat(a, b))) || h != (api.Fault{}) {
			t.Fatalf("of %q there are %+v, %v", s, got, h)
		}
	}
	if both < 1000 {
		t.Error("texts that were put together:", both)
	}
}

// Rules that hold everywhere

func TestWhatIsAnsweredIsNewMemory(t *testing.T) {
	s := "region a = 1 2 3 4 + 5 6 7 8; region b = 9 9 9 9; cloak role a;"
	one, _ := policy.Parse(s)
	want, _ := policy.Parse(s)
	bare := policy.Strip(one)
	_ = append(one[0].Boxes, api.Rect{X0: 77})
	_ = append(bare[0].Boxes, api.Rect{X0: 77})
	for i := range one {
		clear(one[i].Boxes)
	}
	if !same(bare, placeless(want)) {
		t.Errorf("Strip shares memory with what it was given: %+v", bare)
	}
	if again, _ := policy.Parse(s); !same(again, want) {
		t.Errorf("Parse shares memory with what it answered: %+v", again)
	}
	for i := range bare {
		clear(bare[i].Boxes)
	}
	bare[2] = api.Decl{}
	if again, _ := policy.Parse(s); !same(again, want) {
		t.Errorf("Parse shares memory: %+v", again)
	}
}

func TestWhatIsHandedInIsNotChanged(t *testing.T) {
	r := rand.New(rand.NewSource(7))
	for range 2000 {
		l := placed(r, someDecls(r, 4))
		if len(l) > 0 {
			l[0] = turned(r, l[0])
		}
		kept := slices.Clone(l)
		for i := range kept {
			kept[i].Boxes = slices.Clone(l[i].Boxes)
		}
		policy.Right(l)
		policy.Print(l)
		policy.Strip(l)
		if !reflect.DeepEqual(l, kept) {
			t.Fatalf("%+v was %+v", l, kept)
		}
	}
}

func TestAskedByMany(t *testing.T) {
	s := "role nurse = 3; # one\nallow role nurse tier 1..4 label any in all zoom 12;"
	want, _ := parsed(s)
	var all sync.WaitGroup
	for range 4 {
		all.Go(func() {
			for range 100 {
				wantParsed(t, s, want, api.Fault{})
				if policy.Print(want) != printed(want) || !policy.Right(want) {
					t.Error(policy.Print(want))
				}
			}
		})
	}
	all.Wait()
}

// P1

func FuzzParse(f *testing.F) {
	r := rand.New(rand.NewSource(8))
	for range 60 {
		s := spread(r, printed(someDecls(r, 4)))
		f.Add(s)
		f.Add(broken(r, s))
	}
	f.Fuzz(func(t *testing.T, s string) {
		want, wf := parsed(s)
		wantParsed(t, s, want, wf)
		if policy.Print(want) != printed(want) {
			t.Errorf("the form of %+v is %q", want, policy.Print(want))
		}
	})
}
