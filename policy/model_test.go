package policy_test

import (
	"fmt"
	"math/rand"
	"reflect"
	"regexp"
	"slices"
	"strings"
	"testing"

	"paravent/api"
	"paravent/lex"
	"paravent/policy"
)

// A model is the document's words: what may stand in a policy is told by expressions over tokens, of which each has a letter.

// letter is that of a token.
func letter(k api.Token) string {
	switch k.Kind {
	case api.WName:
		return "n"
	case api.WNum:
		return "d"
	}
	return map[string]string{
		"role": "R", "label": "L", "region": "G", "allow": "A", "cap": "C", "cloak": "K", "any": "Y", "all": "E",
		"tier": "T", "in": "I", "zoom": "Z", "=": "=", "+": "+", ";": ";", "..": ":",
	}[k.Text]
}

// shapes are the declarations, in parts: behind some of the first parts of one, the next part is what is wanted.
func shapes() [][]string {
	l := [][]string{
		{"[RL]", "n", "=", "d", ";"},
		{"G", "n", `=(?:dddd\+)*`, "d", "d", "d", "d", ";"},
		{"K", "R", "[Ynd]", ";"},
	}
	for _, tiers := range [][]string{{"Y"}, {"d"}, {"d", ":", "d"}} {
		l = append(l, slices.Concat([]string{"[AC]", "R", "[Ynd]", "T"}, tiers, []string{"L", "[Ynd]", "I", "[En]", "Z", "d", ";"}))
	}
	return l
}

// expressions tell a policy, and the beginning of one.
func expressions() (whole, begun *regexp.Regexp) {
	var full, part []string
	for _, parts := range shapes() {
		full = append(full, strings.Join(parts, ""))
		s := ""
		for _, p := range slices.Backward(parts) {
			s = "(?:" + p + s + ")?"
		}
		part = append(part, s)
	}
	declarations := "^(?:" + strings.Join(full, "|") + ")*"
	return regexp.MustCompile(declarations + "$"), regexp.MustCompile(declarations + "(?:" + strings.Join(part, "|") + ")$")
}

var aPolicy, aBeginning = expressions()

// parsed is what Parse is to answer.
func parsed(s string) ([]api.Decl, api.Fault) {
	tokens, f := lex.Tokens(s)
	if f != (api.Fault{}) {
		return nil, f
	}
	letters := ""
	for _, k := range tokens {
		letters += letter(k)
		if !aBeginning.MatchString(letters) {
			return nil, api.Fault{Err: api.ErrParse, At: k.At}
		}
	}
	if !aPolicy.MatchString(letters) {
		return nil, api.Fault{Err: api.ErrParse, At: lex.End(s)}
	}
	var l []api.Decl
	first := 0
	for i, k := range tokens {
		if k.Text == ";" {
			l = append(l, declared(tokens[first:i]))
			first = i + 1
		}
	}
	return l, api.Fault{}
}

// declared is the declaration of tokens which are one, but for the last one.
func declared(k []api.Token) api.Decl {
	d := api.Decl{At: k[0].At, Kind: map[string]int{
		"role": api.DRole, "label": api.DLabel, "region": api.DRegion,
		"allow": api.DAllow, "cap": api.DCap, "cloak": api.DCloak}[k[0].Text]}
	end := len(k)
	switch d.Kind {
	case api.DRole, api.DLabel:
		d.Name, d.N = k[1].Text, k[3].N
	case api.DRegion:
		d.Name = k[1].Text
		for i := 3; i < end; i += 5 {
			d.Boxes = append(d.Boxes, api.Rect{X0: k[i].N, Y0: k[i+1].N, X1: k[i+2].N, Y1: k[i+3].N})
		}
	case api.DAllow, api.DCap:
		d.Role, d.Label, d.Where = meant(k[2]), meant(k[end-5]), meant(k[end-3])
		d.Lo, d.Hi, d.Zoom = k[4].N, k[end-7].N, k[end-1].N
		if k[4].Text == "any" {
			d.Lo, d.Hi = 0, 7
		}
	case api.DCloak:
		d.Role = meant(k[2])
	}
	return d
}

// meant is the who of a token.
func meant(k api.Token) api.Who {
	switch k.Kind {
	case api.WWord:
		return api.Who{Any: true, At: k.At}
	case api.WName:
		return api.Who{Name: k.Text, At: k.At}
	}
	return api.Who{N: k.N, At: k.At}
}

// placeless are declarations without places.
func placeless(l []api.Decl) []api.Decl {
	var all []api.Decl
	for _, d := range l {
		d.At, d.Role.At, d.Label.At, d.Where.At = api.Pos{}, api.Pos{}, api.Pos{}, api.Pos{}
		if d.Boxes = slices.Clone(d.Boxes); len(d.Boxes) == 0 {
			d.Boxes = nil
		}
		all = append(all, d)
	}
	return all
}

func same(a, b []api.Decl) bool {
	if len(a) == 0 && len(b) == 0 {
		return true
	}
	none := func(l []api.Decl) []api.Decl {
		l = slices.Clone(l)
		for i := range l {
			if len(l[i].Boxes) == 0 {
				l[i].Boxes = nil
			}
		}
		return l
	}
	return reflect.DeepEqual(none(a), none(b))
}

// mayBe is what Right is to answer of one.
func mayBe(d api.Decl) bool {
	d = placeless([]api.Decl{d})[0]
	number := func(n int) bool { return n >= 0 && n <= 65535 }
	who := func(w api.Who) bool {
		return w == api.Who{Any: true} || w == api.Who{N: w.N} && number(w.N) || w == api.Who{Name: w.Name} && lex.Name(w.Name)
	}
	fine, rest := false, d
	rest.Kind = 0
	switch d.Kind {
	case api.DRole, api.DLabel:
		fine = lex.Name(d.Name) && number(d.N)
		rest.Name, rest.N = "", 0
	case api.DRegion:
		fine = lex.Name(d.Name) && len(d.Boxes) > 0
		for _, b := range d.Boxes {
			fine = fine && number(b.X0) && number(b.Y0) && number(b.X1) && number(b.Y1)
		}
		rest.Name, rest.Boxes = "", nil
	case api.DAllow, api.DCap:
		fine = who(d.Role) && who(d.Label) && number(d.Lo) && number(d.Hi) && number(d.Zoom) &&
			(d.Where == api.Who{Any: true} || d.Where == api.Who{Name: d.Where.Name} && lex.Name(d.Where.Name))
		rest.Role, rest.Label, rest.Where, rest.Lo, rest.Hi, rest.Zoom = api.Who{}, api.Who{}, api.Who{}, 0, 0, 0
	case api.DCloak:
		fine = who(d.Role)
		rest.Role = api.Who{}
	}
	return fine && reflect.DeepEqual(rest, api.Decl{})
}

// printed is what Print is to answer.
func printed(l []api.Decl) string {
	form := ""
	who := func(w api.Who, all string) string {
		switch {
		case w.Any:
			return all
		case w.Name != "":
			return w.Name
		}
		return fmt.Sprint(w.N)
	}
	for _, d := range l {
		if !mayBe(d) {
			return ""
		}
		switch d.Kind {
		case api.DRole:
			form += fmt.Sprintf("role %s = %d;\n", d.Name, d.N)
		case api.DLabel:
			form += fmt.Sprintf("label %s = %d;\n", d.Name, d.N)
		case api.DRegion:
			form += fmt.Sprintf("region %s =", d.Name)
			for i, b := range d.Boxes {
				form += []string{"", " +"}[min(i, 1)] + fmt.Sprintf(" %d %d %d %d", b.X0, b.Y0, b.X1, b.Y1)
			}
			form += ";\n"
		case api.DAllow, api.DCap:
			tiers := fmt.Sprintf("%d..%d", d.Lo, d.Hi)
			if d.Lo == 0 && d.Hi == 7 {
				tiers = "any"
			} else if d.Lo == d.Hi {
				tiers = fmt.Sprint(d.Lo)
			}
			head := map[int]string{api.DAllow: "allow", api.DCap: "cap"}[d.Kind]
			form += fmt.Sprintf("%s role %s tier %s label %s in %s zoom %d;\n",
				head, who(d.Role, "any"), tiers, who(d.Label, "any"), who(d.Where, "all"), d.Zoom)
		case api.DCloak:
			form += fmt.Sprintf("cloak role %s;\n", who(d.Role, "any"))
		}
	}
	return form
}

// Some of all that there is.

func someName(r *rand.Rand) string {
	return []string{"a", "nurse", "ward-3", "alls", "x-", "in1", "abcdefghijklmnop"}[r.Intn(7)]
}

func someNumber(r *rand.Rand) int {
	return []int{0, 1, 3, 5, 7, 8, 16, 17, 300, 65534, 65535, r.Intn(65536)}[r.Intn(12)]
}

func someWho(r *rand.Rand, numbers bool) api.Who {
	switch n := r.Intn(3); {
	case n == 0:
		return api.Who{Any: true}
	case n == 1 && numbers:
		return api.Who{N: someNumber(r)}
	}
	return api.Who{Name: someName(r)}
}

func someBoxes(r *rand.Rand) []api.Rect {
	var l []api.Rect
	for range 1 + r.Intn(3)*r.Intn(3) {
		l = append(l, api.Rect{X0: someNumber(r), Y0: someNumber(r), X1: someNumber(r), Y1: someNumber(r)})
	}
	return l
}

// someDecl is a declaration that may be, without places.
func someDecl(r *rand.Rand) api.Decl {
	switch kind := 1 + r.Intn(6); kind {
	case api.DRole, api.DLabel:
		return api.Decl{Kind: kind, Name: someName(r), N: someNumber(r)}
	case api.DRegion:
		return api.Decl{Kind: kind, Name: someName(r), Boxes: someBoxes(r)}
	case api.DCloak:
		return api.Decl{Kind: kind, Role: someWho(r, true)}
	default:
		d := api.Decl{Kind: kind, Role: someWho(r, true), Label: someWho(r, true), Where: someWho(r, false), Zoom: someNumber(r)}
		d.Lo, d.Hi = someNumber(r), someNumber(r)
		if r.Intn(3) == 0 {
			d.Lo, d.Hi = []int{0, 7, d.Lo}[r.Intn(3)], []int{0, 7, d.Lo}[r.Intn(3)]
		}
		return d
	}
}

func someDecls(r *rand.Rand, most int) []api.Decl {
	var l []api.Decl
	for range r.Intn(most + 1) {
		l = append(l, someDecl(r))
	}
	return l
}

func somePos(r *rand.Rand) api.Pos { return api.Pos{Line: r.Intn(100) - 9, Col: r.Intn(100) - 9} }

// placed are declarations with places of any kind.
func placed(r *rand.Rand, l []api.Decl) []api.Decl {
	l = slices.Clone(l)
	for i := range l {
		l[i].At, l[i].Role.At, l[i].Label.At, l[i].Where.At = somePos(r), somePos(r), somePos(r), somePos(r)
	}
	return l
}

// turned is a declaration with something else at one or two of its fields.
func turned(r *rand.Rand, d api.Decl) api.Decl {
	n := []int{-1, -65535, 65536, 1 << 31, 0, 1, 7, 65535}[r.Intn(8)]
	s := []string{"", "a", "role", "any", "all", "A", "a b", "a;", "a ", " a", "a#", "3", "-a", "a\n", "a = 3; role b", "abcdefghijklmnopq", "é"}[r.Intn(17)]
	w := []api.Who{{}, {Any: true}, {N: n}, {Name: s}, {Any: true, Name: s}, {Any: true, N: n}, {Name: s, N: n}}[r.Intn(7)]
	switch r.Intn(12) {
	case 0:
		d.Kind = []int{0, 1, 2, 3, 4, 5, 6, 7, -1, n}[r.Intn(10)]
	case 1:
		d.Name = s
	case 2:
		d.N = n
	case 3:
		d.Boxes = []([]api.Rect){nil, {}, {{}}, someBoxes(r)}[r.Intn(4)]
	case 4:
		d.Boxes = append(someBoxes(r), []api.Rect{{X0: n}, {Y0: n}, {X1: n}, {Y1: n}}[r.Intn(4)])
	case 5:
		d.Role = w
	case 6:
		d.Label = w
	case 7:
		d.Where = w
	case 8:
		d.Lo = n
	case 9:
		d.Hi = n
	case 10:
		d.Zoom = n
	case 11:
		return turned(r, turned(r, d))
	}
	return d
}

// spread is a text of the same tokens, with other blanks and remarks.
func spread(r *rand.Rand, s string) string {
	tokens, _ := lex.Tokens(s)
	blanks := []string{" ", " ", " ", "\n", "  ", "\n\n ", "# role a = 3;\n", " #\n"}
	var b strings.Builder
	for _, k := range tokens {
		if k.Kind != api.WMark || r.Intn(2) == 0 {
			b.WriteString(blanks[r.Intn(len(blanks))])
		}
		b.WriteString(k.Text)
	}
	b.WriteString([]string{"", "\n", " ", "# the end"}[r.Intn(4)])
	return b.String()
}

// broken is a text with a token or two taken out, put in, or put in another's place.
func broken(r *rand.Rand, s string) string {
	tokens, _ := lex.Tokens(s)
	var l []string
	for _, k := range tokens {
		l = append(l, k.Text)
	}
	others := []string{"role", "label", "region", "allow", "cap", "cloak", "any", "all", "tier", "in", "zoom", "a", "7", "0", "=", "+", ";", ".."}
	for range 1 + r.Intn(2) {
		i, o := r.Intn(len(l)+1), others[r.Intn(len(others))]
		switch n := r.Intn(4); {
		case n == 0 || i == len(l):
			l = slices.Insert(l, i, o)
		case n == 1:
			l = slices.Delete(l, i, i+1)
		case n == 2:
			l[i] = o
		default:
			l = l[:i]
		}
	}
	return strings.Join(l, " ")
}

func wantParsed(t *testing.T, s string, want []api.Decl, wf api.Fault) {
	t.Helper()
	if l, f := policy.Parse(s); !same(l, want) || f != wf {
		t.Errorf("Parse(%q) = %+v, %v, want %+v, %v", s, l, f, want, wf)
	}
}
