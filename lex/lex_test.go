package lex_test

import (
	"math/rand"
	"regexp"
	"slices"
	"strconv"
	"strings"
	"sync"
	"testing"

	"paravent/api"
	"paravent/lex"
)

func at(line, col int) api.Pos { return api.Pos{Line: line, Col: col} }

func fault(e api.Errno, line, col int) api.Fault { return api.Fault{Err: e, At: at(line, col)} }

func name(s string, line, col int) api.Token {
	return api.Token{Kind: api.WName, Text: s, At: at(line, col)}
}

func word(s string, line, col int) api.Token {
	return api.Token{Kind: api.WWord, Text: s, At: at(line, col)}
}

func num(n, line, col int) api.Token {
	return api.Token{Kind: api.WNum, Text: strconv.Itoa(n), N: n, At: at(line, col)}
}

func mark(s string, line, col int) api.Token {
	return api.Token{Kind: api.WMark, Text: s, At: at(line, col)}
}

// The words as the document lists them.
func words() []string {
	return []string{"role", "label", "region", "allow", "cap", "cloak", "any", "all", "tier", "in", "zoom"}
}

func wantTokens(t *testing.T, s string, want ...api.Token) {
	t.Helper()
	if l, f := lex.Tokens(s); !slices.Equal(l, want) || f != (api.Fault{}) {
		t.Errorf("Tokens(%q) = %v, %v, want %v", s, l, f, want)
	}
}

func wantFault(t *testing.T, s string, want api.Fault) {
	t.Helper()
	if l, f := lex.Tokens(s); len(l) != 0 || f != want {
		t.Errorf("Tokens(%q) = %v, %v, want none, %v", s, l, f, want)
	}
}

// bare are tokens without their places.
func bare(l []api.Token) []api.Token {
	l = slices.Clone(l)
	for i := range l {
		l[i].At = api.Pos{}
	}
	return l
}

// A model is the document's words, told by expressions.
var (
	between = regexp.MustCompile(`^(?s:[ \n]|#[^\n]*)*`)
	aToken  = regexp.MustCompile(`^(?:([a-z][a-z0-9-]*)|([0-9]+)|([=+;]|\.\.))`)
	aNumber = regexp.MustCompile(`^(?:0|[1-9][0-9]{0,4})$`)
)

// placeOf is the place of the byte at i.
func placeOf(s string, i int) api.Pos {
	lines := strings.Split(s[:i], "\n")
	return at(len(lines), len(lines[len(lines)-1])+1)
}

func model(s string) ([]api.Token, api.Fault) {
	if len(s) > 512 {
		return nil, fault(api.ErrLong, 1, 1)
	}
	var l []api.Token
	for i := len(between.FindString(s)); i < len(s); i += len(between.FindString(s[i:])) {
		p := placeOf(s, i)
		m := aToken.FindStringSubmatch(s[i:])
		switch {
		case m == nil:
			return nil, api.Fault{Err: api.ErrChar, At: p}
		case slices.Contains(words(), m[1]):
			l = append(l, api.Token{Kind: api.WWord, Text: m[1], At: p})
		case len(m[1]) > 16:
			return nil, api.Fault{Err: api.ErrLong, At: p}
		case m[1] != "":
			l = append(l, api.Token{Kind: api.WName, Text: m[1], At: p})
		case m[2] != "":
			n, _ := strconv.Atoi(m[2])
			if !aNumber.MatchString(m[2]) || n > 65535 {
				return nil, api.Fault{Err: api.ErrNumber, At: p}
			}
			l = append(l, api.Token{Kind: api.WNum, Text: m[2], N: n, At: p})
		default:
			l = append(l, api.Token{Kind: api.WMark, Text: m[3], At: p})
		}
		i += len(m[0])
	}
	return l, api.Fault{}
}

// pieces are put together to texts: tokens, what stands between them, and, at times, what is none.
func pieces() []string {
	return append(words(), "a", "z", "nurse", "a-b", "a--", "x1", "roles", "alla", "in-", "allow-all", "any1",
		"abcdefghijklmnop", "a123456789012345", "0", "7", "10", "16", "255", "65535", "=", "+", ";", "..",
		" ", "  ", "\n", "\n\n", " \n ", "# a remark\n", "#\n", "##..;\n", "#\x00\xff\t\r.A\n")
}

func wrong() []string {
	return []string{".", "...", "A", "_", "-", "\t", "\r", "\x00", "\xff", "é", ",", "007", "00", "65536",
		"99999999999999999999", "abcdefghijklmnopq", "allow-allow-allow", "#"}
}

// text puts n pieces together; one of so many is a wrong one (none, if that is 0).
func text(r *rand.Rand, n, oneOf int) string {
	var b strings.Builder
	for range n {
		l := pieces()
		if oneOf > 0 && r.Intn(oneOf) == 0 {
			l = wrong()
		}
		b.WriteString(l[r.Intn(len(l))])
		if r.Intn(2) == 0 {
			b.WriteString(" ")
		}
	}
	return b.String()
}

// P10.1

func TestExamples(t *testing.T) {
	wantTokens(t, "role nurse = 3;", word("role", 1, 1), name("nurse", 1, 6), mark("=", 1, 12), num(3, 1, 14), mark(";", 1, 15))
	wantFault(t, "007", fault(api.ErrNumber, 1, 1))
	wantTokens(t, "1..4", num(1, 1, 1), mark("..", 1, 2), num(4, 1, 4))
}

func TestNoTokens(t *testing.T) {
	for _, s := range []string{"", " ", "\n", " \n \n\n", "#", "# role", "#\n", "##\n # \x00\xff\t\r é\n ", strings.Repeat(" ", 512)} {
		wantTokens(t, s)
	}
}

func TestTokensAreAsLongAsTheyCanBe(t *testing.T) {
	wantTokens(t, "roles", name("roles", 1, 1))
	wantTokens(t, "role-", name("role-", 1, 1))
	wantTokens(t, "in1", name("in1", 1, 1))
	wantTokens(t, "role label", word("role", 1, 1), word("label", 1, 6))
	wantTokens(t, "rolelabel", name("rolelabel", 1, 1))
	wantTokens(t, "a-b--c0-", name("a-b--c0-", 1, 1))
	wantTokens(t, "12ab", num(12, 1, 1), name("ab", 1, 3))
	wantTokens(t, "1in2", num(1, 1, 1), name("in2", 1, 2))
	wantTokens(t, "3any", num(3, 1, 1), word("any", 1, 2))
	wantTokens(t, "....", mark("..", 1, 1), mark("..", 1, 3))
	wantTokens(t, "a..b", name("a", 1, 1), mark("..", 1, 2), name("b", 1, 4))
	wantTokens(t, "==+;", mark("=", 1, 1), mark("=", 1, 2), mark("+", 1, 3), mark(";", 1, 4))
	wantTokens(t, "0 0", num(0, 1, 1), num(0, 1, 3))
}

func TestPlaces(t *testing.T) {
	wantTokens(t, "\n\n  a\n b#c\nd", name("a", 3, 3), name("b", 4, 2), name("d", 5, 1))
	wantTokens(t, "# é\n;", mark(";", 2, 1))
	wantTokens(t, "a # b # c", name("a", 1, 1))
	wantTokens(t, "a#\n#\n\n#b\n1", name("a", 1, 1), num(1, 5, 1))
	wantFault(t, "a\n  b !", fault(api.ErrChar, 2, 5))
	wantFault(t, "#\n 01", fault(api.ErrNumber, 2, 2))
	wantFault(t, "= \n\nabcdefghijklmnopq", fault(api.ErrLong, 3, 1))
}

func TestWordsAndNames(t *testing.T) {
	for _, w := range words() {
		wantTokens(t, w, word(w, 1, 1))
		wantTokens(t, " "+w+";", word(w, 1, 2), mark(";", 1, 2+len(w)))
		for _, s := range []string{w + "a", w + "-", w + "0", "a" + w, w + w, w[1:] + "x"} {
			wantTokens(t, s, name(s, 1, 1))
		}
	}
	for n := 1; n <= 40; n++ {
		for _, s := range []string{strings.Repeat("z", n), "a" + strings.Repeat("-", n-1), "b" + strings.Repeat("9", n-1)} {
			if n <= 16 {
				wantTokens(t, s, name(s, 1, 1))
			} else {
				wantFault(t, s, fault(api.ErrLong, 1, 1))
			}
		}
	}
}

func TestNumbers(t *testing.T) {
	for n := range 65536 {
		if l, f := lex.Tokens(strconv.Itoa(n)); !slices.Equal(l, []api.Token{num(n, 1, 1)}) || f != (api.Fault{}) {
			t.Fatalf("of the text of %d: %v, %v", n, l, f)
		}
	}
	for _, s := range []string{
		"00", "01", "007", "000", "00000000000000000001", "065535", "65536", "65540", "65600", "66000", "70000", "99999",
		"100000", "655350", "131071", "4294967295", "4294967296", "4294967297", "9223372036854775807", "9223372036854775808",
		"18446744073709551615", "18446744073709551616", "18446744073709551617", strings.Repeat("9", 512), strings.Repeat("0", 512),
	} {
		wantFault(t, s, fault(api.ErrNumber, 1, 1))
	}
	wantFault(t, "1..007", fault(api.ErrNumber, 1, 4))
	wantFault(t, "1..65536", fault(api.ErrNumber, 1, 4))
	wantFault(t, "65536a", fault(api.ErrNumber, 1, 1))
}

func TestBytesWithWhichNoTokenBegins(t *testing.T) {
	begins := "abcdefghijklmnopqrstuvwxyz0123456789=+; \n#"
	for i := range 256 {
		s := string([]byte{byte(i)})
		if strings.Contains(begins, s) {
			if _, f := lex.Tokens(s); f != (api.Fault{}) {
				t.Errorf("%q: %v", s, f)
			}
			continue
		}
		wantFault(t, s, fault(api.ErrChar, 1, 1))
		wantFault(t, "\n a "+s+"z", fault(api.ErrChar, 2, 4))
		if i != '-' {
			wantFault(t, "a"+s, fault(api.ErrChar, 1, 2))
		}
		wantFault(t, "5"+s, fault(api.ErrChar, 1, 2))
		wantTokens(t, "5#"+s+"\n7", num(5, 1, 1), num(7, 2, 1))
	}
	wantFault(t, "1.4", fault(api.ErrChar, 1, 2))
	wantFault(t, "1. .4", fault(api.ErrChar, 1, 2))
	wantFault(t, "1...4", fault(api.ErrChar, 1, 4))
	wantFault(t, "1.\n.", fault(api.ErrChar, 1, 2))
	wantFault(t, "1.#\n.", fault(api.ErrChar, 1, 2))
	wantFault(t, "a é", fault(api.ErrChar, 1, 3))
}

func TestTheFirstFault(t *testing.T) {
	long := "abcdefghijklmnopq"
	wantFault(t, "! 007 "+long, fault(api.ErrChar, 1, 1))
	wantFault(t, "007 ! "+long, fault(api.ErrNumber, 1, 1))
	wantFault(t, long+" ! 007", fault(api.ErrLong, 1, 1))
	wantFault(t, long+"!", fault(api.ErrLong, 1, 1))
	wantFault(t, long+"A", fault(api.ErrLong, 1, 1))
	wantFault(t, "007!", fault(api.ErrNumber, 1, 1))
	wantFault(t, "a = 1;\n"+long+" !", fault(api.ErrLong, 2, 1))
}

func TestTheLongestText(t *testing.T) {
	wantTokens(t, strings.Repeat(" ", 511)+"a", name("a", 1, 512))
	wantTokens(t, "#"+strings.Repeat("x", 511))
	if l, f := lex.Tokens(strings.Repeat(";", 512)); len(l) != 512 || f != (api.Fault{}) {
		t.Error(len(l), f)
	}
	for _, s := range []string{
		strings.Repeat(" ", 513), strings.Repeat("\n", 513), strings.Repeat(";", 513), "#" + strings.Repeat("x", 512),
		strings.Repeat("!", 513), "\n\n007" + strings.Repeat(" ", 600), strings.Repeat("a ", 1<<16), strings.Repeat("é", 257),
	} {
		wantFault(t, s, fault(api.ErrLong, 1, 1))
	}
	wantFault(t, strings.Repeat("é", 256), fault(api.ErrChar, 1, 1))
}

// TestAgainstAModel holds what is told against the document's words.
func TestAgainstAModel(t *testing.T) {
	r := rand.New(rand.NewSource(1))
	fine := 0
	for i := range 20000 {
		s := text(r, r.Intn(30), []int{0, 10, 40}[i%3])
		if i%10 == 9 {
			b := make([]byte, r.Intn(30))
			r.Read(b)
			s += string(b)
		}
		want, f := model(s)
		if f == (api.Fault{}) {
			fine++
			wantTokens(t, s, want...)
		} else {
			wantFault(t, s, f)
		}
	}
	if fine < 5000 || fine > 15000 {
		t.Error("texts without a fault:", fine)
	}
}

// P10.2

func TestEnd(t *testing.T) {
	for s, want := range map[string]api.Pos{
		"":             at(1, 1),
		"a":            at(1, 2),
		"role = 3;":    at(1, 10),
		"\n":           at(2, 1),
		"a\n":          at(2, 1),
		"a\nbc":        at(2, 3),
		"\n\n\n":       at(4, 1),
		" \n # a\n  ":  at(3, 3),
		"é":            at(1, 3),
		"a\r\n\t\x00b": at(2, 4),
	} {
		if got := lex.End(s); got != want {
			t.Errorf("End(%q) = %v, want %v", s, got, want)
		}
	}
	for n := range 2000 { // longer than a policy's text, too
		if got := lex.End(strings.Repeat("!", n)); got != at(1, n+1) {
			t.Fatalf("the end of %d bytes: %v", n, got)
		}
		if got := lex.End(strings.Repeat("a\n", n) + "b"); got != at(n+1, 2) {
			t.Fatalf("the end of %d lines: %v", n, got)
		}
	}
	r := rand.New(rand.NewSource(2))
	for range 2000 {
		s := text(r, r.Intn(40), 10)
		if got := lex.End(s); got != placeOf(s, len(s)) {
			t.Fatalf("End(%q) = %v", s, got)
		}
	}
}

func wantWhole(t *testing.T, s string, word, name bool) {
	t.Helper()
	if lex.Word(s) != word || lex.Name(s) != name {
		t.Errorf("%q: Word %v, Name %v, want %v, %v", s, lex.Word(s), lex.Name(s), word, name)
	}
}

func TestWordAndName(t *testing.T) {
	for _, w := range words() {
		wantWhole(t, w, true, false)
		for _, s := range []string{" " + w, w + " ", w + "\n", w + ";", w + "#", "#\n" + w, w + " " + w, strings.ToUpper(w), strings.ToUpper(w[:1]) + w[1:], w + "\x00", "\x00" + w} {
			wantWhole(t, s, false, false)
		}
		for _, s := range []string{w + "s", w + "-", w + "0", w + w, "x" + w, w[:len(w)-1] + "q"} {
			wantWhole(t, s, false, true)
		}
	}
	for _, s := range []string{"a", "z", "nurse", "ward-3", "a-", "a--b", "a0", "al", "anyone", "roles", "zooms", "abcdefghijklmnop", "allow-allow-allo"} {
		wantWhole(t, s, false, true)
	}
	for _, s := range []string{
		"", " ", "\n", "#", "0", "3", "007", "3a", "-", "-a", "=", "+", ";", "..", ".", "A", "aB", "a b", "a.b", "a_b", "a;", "a ", " a",
		"\na", "a\n", "a#", "a#b", "#\na", "é", "aé", "a\x00", "\xff", "abcdefghijklmnopq", strings.Repeat("a", 512), strings.Repeat("a", 513),
		"a" + strings.Repeat(" ", 600), strings.Repeat("a", 1<<20),
	} {
		wantWhole(t, s, false, false)
	}
	for i := range 256 {
		c := string([]byte{byte(i)})
		letter := i >= 'a' && i <= 'z'
		wantWhole(t, c, false, letter)
		wantWhole(t, "q"+c, false, letter || i >= '0' && i <= '9' || i == '-')
		wantWhole(t, c+"q", false, letter)
	}
}

// What is told of a whole text is told of its only token.
func TestWordAndNameAgreeWithTokens(t *testing.T) {
	r := rand.New(rand.NewSource(3))
	for range 20000 {
		s := text(r, r.Intn(3), 10)
		l, _ := model(s)
		one := len(l) == 1 && l[0].Text == s
		wantWhole(t, s, one && l[0].Kind == api.WWord, one && l[0].Kind == api.WName)
	}
}

// P10.3

func TestTextsOfTokensHaveTheSameTokens(t *testing.T) {
	r := rand.New(rand.NewSource(4))
	for range 5000 {
		s := text(r, r.Intn(30), 0)
		l, f := lex.Tokens(s)
		if f != (api.Fault{}) {
			continue
		}
		var texts []string
		for _, k := range l {
			texts = append(texts, k.Text)
		}
		again := strings.Join(texts, " ")
		if len(again) > api.MaxSource {
			continue
		}
		if got, f := lex.Tokens(again); !slices.Equal(bare(got), bare(l)) || f != (api.Fault{}) {
			t.Fatalf("of %q there are %v, of %q %v, %v", s, l, again, got, f)
		}
	}
}

// P10.4

func TestATokensTextStandsAtItsPlace(t *testing.T) {
	r := rand.New(rand.NewSource(5))
	for range 5000 {
		s := text(r, r.Intn(30), 0)
		l, _ := lex.Tokens(s)
		lines := strings.Split(s, "\n")
		behind := at(1, 1)
		for _, k := range l {
			if k.At.Line < 1 || k.At.Line > len(lines) || k.At.Col < 1 || k.At.Col > len(lines[k.At.Line-1]) ||
				!strings.HasPrefix(lines[k.At.Line-1][k.At.Col-1:], k.Text) || len(k.Text) == 0 {
				t.Fatalf("of %q %v doesn't stand there", s, k)
			}
			if k.At.Line < behind.Line || k.At.Line == behind.Line && k.At.Col < behind.Col {
				t.Fatalf("of %q %v stands ahead of %v", s, k, behind)
			}
			behind = at(k.At.Line, k.At.Col+len(k.Text))
		}
	}
}

// P10.5

func TestWhatStandsBetweenTurnsPlacesAlone(t *testing.T) {
	r := rand.New(rand.NewSource(6))
	blanks := []string{" ", "\n", "   ", "\n\n", "#\n", " # a role = 007 .. \n", "\n#!\x00\xff\n#\n "}
	for range 3000 {
		l, f := lex.Tokens(text(r, r.Intn(12), 0))
		if f != (api.Fault{}) {
			continue
		}
		var b strings.Builder
		for _, k := range l {
			for range r.Intn(2) {
				b.WriteString(blanks[r.Intn(len(blanks))])
			}
			b.WriteString(k.Text)
			b.WriteString(blanks[r.Intn(len(blanks))])
		}
		b.WriteString([]string{"", " ", "# the end", "#"}[r.Intn(4)])
		if b.Len() > api.MaxSource {
			continue
		}
		if got, f := lex.Tokens(b.String()); !slices.Equal(bare(got), bare(l)) || f != (api.Fault{}) {
			t.Fatalf("of %q there are %v, %v, want %v", b.String(), got, f, l)
		}
	}
}

// Rules that hold everywhere

func TestTokensAreNewMemory(t *testing.T) {
	s := "role a = 1;"
	one, _ := lex.Tokens(s)
	two, _ := lex.Tokens(s)
	for i := range one {
		one[i] = api.Token{}
	}
	wantTokens(t, s, two...)
	wantTokens(t, s, word("role", 1, 1), name("a", 1, 6), mark("=", 1, 8), num(1, 1, 10), mark(";", 1, 11))
}

func TestAskedByMany(t *testing.T) {
	s := "role nurse = 3; # one\nlabel x = 4;"
	want, _ := model(s)
	var all sync.WaitGroup
	for range 4 {
		all.Go(func() {
			for range 100 {
				wantTokens(t, s, want...)
				wantWhole(t, "zoom", true, false)
				wantWhole(t, "zooms", false, true)
			}
		})
	}
	all.Wait()
}

// P1

func FuzzTokens(f *testing.F) {
	for _, s := range append(pieces(), wrong()...) {
		f.Add(s)
		f.Add("role a = 3; " + s)
	}
	f.Fuzz(func(t *testing.T, s string) {
		want, wf := model(s)
		if l, f := lex.Tokens(s); !slices.Equal(l, want) || f != wf {
			t.Errorf("Tokens(%q) = %v, %v, want %v, %v", s, l, f, want, wf)
		}
		if got := lex.End(s); got != placeOf(s, len(s)) {
			t.Errorf("End(%q) = %v", s, got)
		}
		one := len(want) == 1 && want[0].Text == s
		wantWhole(t, s, one && want[0].Kind == api.WWord, one && want[0].Kind == api.WName)
	})
}
