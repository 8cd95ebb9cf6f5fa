package num_test

import (
	"bytes"
	"cmp"
	"math"
	"math/big"
	"math/rand"
	"strconv"
	"strings"
	"testing"

	"paravent/api"
	"paravent/num"
)

// samples are numbers at the edges of digits, bits and bytes, and some others.
func samples() []uint64 {
	l := []uint64{0, 1, 2, 5, 7, 42, 258, math.MaxUint64, math.MaxUint64 - 1, math.MaxInt64}
	for ten := uint64(1); ; ten *= 10 {
		l = append(l, ten-1, ten, ten+1)
		if ten > math.MaxUint64/10 {
			break
		}
	}
	for i := range 64 {
		bit := uint64(1) << i
		l = append(l, bit-1, bit, bit+1)
	}
	r := rand.New(rand.NewSource(1))
	for range 300 {
		l = append(l, r.Uint64()>>r.Intn(64))
	}
	return l
}

// P1.1

func TestText(t *testing.T) {
	for _, c := range []struct {
		n    uint64
		want string
	}{
		{0, "0"},
		{7, "7"},
		{10, "10"},
		{1000000, "1000000"},
		{math.MaxUint64, "18446744073709551615"},
	} {
		if got := num.Text(c.n); got != c.want {
			t.Errorf("Text(%d) = %q, want %q", c.n, got, c.want)
		}
	}
	for _, n := range samples() {
		if got, want := num.Text(n), strconv.FormatUint(n, 10); got != want {
			t.Errorf("Text(%d) = %q", n, got)
		}
	}
}

func TestParse(t *testing.T) {
	for _, n := range samples() {
		if got, e := num.Parse(strconv.FormatUint(n, 10)); got != n || e != api.OK {
			t.Errorf("Parse of the text of %d = %d, %d", n, got, e)
		}
	}
}

func TestParseRefuses(t *testing.T) {
	for _, s := range []string{
		"", "00", "01", "007", "000000000000000000001",
		"-1", "+1", "-0", "+0", " 1", "1 ", "1\n", "\t1", "1_000", "1,000", "1.0", "1e3",
		"0x1", "a", "1a", "ff", "٣", "１", "1\x00", "\xff",
		"18446744073709551616", "18446744073709551617", "18446744073709551620",
		"18446744073709551700", "18446744073709552000", "20000000000000000000",
		"99999999999999999999", "100000000000000000000", "184467440737095516150",
		strings.Repeat("9", 1000), strings.Repeat("0", 1000),
	} {
		if n, e := num.Parse(s); n != 0 || e != api.ErrNumber {
			t.Errorf("Parse(%q) = %d, %d, want 0, %d", s, n, e, api.ErrNumber)
		}
	}
}

func TestParseTakesDigitsAlone(t *testing.T) {
	for i := range 256 {
		c := string([]byte{byte(i)})
		digit := i >= '0' && i <= '9'
		for _, s := range []string{c, "1" + c + "2", "12" + c} {
			n, e := num.Parse(s)
			if want, bad := strconv.Atoi(s); digit && (bad != nil || n != uint64(want) || e != api.OK) {
				t.Errorf("Parse(%q) = %d, %d", s, n, e)
			}
			if !digit && (n != 0 || e != api.ErrNumber) {
				t.Errorf("Parse(%q) = %d, %d, want 0, %d", s, n, e, api.ErrNumber)
			}
		}
	}
}

// P1.2

func TestPut(t *testing.T) {
	for _, c := range []struct {
		n    uint64
		wide int
		want []byte
	}{
		{0, 1, []byte{0}},
		{0, 8, make([]byte, 8)},
		{255, 1, []byte{255}},
		{258, 2, []byte{1, 2}},
		{258, 4, []byte{0, 0, 1, 2}},
		{0x0102030405, 5, []byte{1, 2, 3, 4, 5}},
		{0x0102030405060708, 8, []byte{1, 2, 3, 4, 5, 6, 7, 8}},
		{math.MaxUint64, 8, bytes.Repeat([]byte{255}, 8)},
	} {
		if got, e := num.Put(c.n, c.wide); e != api.OK || !bytes.Equal(got, c.want) {
			t.Errorf("Put(%d, %d) = %v, %d, want %v", c.n, c.wide, got, e, c.want)
		}
	}
}

func TestPutRefusesWidths(t *testing.T) {
	for _, wide := range []int{0, -1, 9, 10, 64, 256, 257, math.MinInt, math.MaxInt} {
		for _, n := range []uint64{0, 1, 258, math.MaxUint64} {
			if b, e := num.Put(n, wide); len(b) != 0 || e != api.ErrArg {
				t.Errorf("Put(%d, %d) = %v, %d, want none, %d", n, wide, b, e, api.ErrArg)
			}
		}
	}
}

func TestPutTakesWhatFits(t *testing.T) {
	for wide := 1; wide <= 8; wide++ {
		for _, n := range samples() {
			fits := wide == 8 || n>>(8*wide) == 0
			b, e := num.Put(n, wide)
			if fits && (len(b) != wide || e != api.OK) {
				t.Errorf("Put(%d, %d) = %v, %d", n, wide, b, e)
			}
			if !fits && (len(b) != 0 || e != api.ErrArg) {
				t.Errorf("Put(%d, %d) = %v, %d, want none, %d", n, wide, b, e, api.ErrArg)
			}
		}
	}
}

func TestPutAnswersNewMemory(t *testing.T) {
	a, _ := num.Put(258, 2)
	b, _ := num.Put(258, 2)
	a[0], a[1] = 9, 9
	a = append(a, 9)
	if !bytes.Equal(b, []byte{1, 2}) || len(a) != 3 {
		t.Error("two answers share their bytes:", b)
	}
	if c, _ := num.Put(258, 2); !bytes.Equal(c, []byte{1, 2}) {
		t.Error("an answer that was changed changes the next one:", c)
	}
}

func TestGet(t *testing.T) {
	for _, c := range []struct {
		b    []byte
		want uint64
	}{
		{[]byte{0}, 0},
		{[]byte{255}, 255},
		{[]byte{1, 2}, 258},
		{[]byte{0, 0, 1, 2}, 258},
		{make([]byte, 8), 0},
		{[]byte{1, 2, 3, 4, 5, 6, 7, 8}, 0x0102030405060708},
		{bytes.Repeat([]byte{255}, 8), math.MaxUint64},
	} {
		kept := bytes.Clone(c.b)
		if got, e := num.Get(c.b); got != c.want || e != api.OK {
			t.Errorf("Get(%v) = %d, %d, want %d", c.b, got, e, c.want)
		}
		if !bytes.Equal(kept, c.b) {
			t.Errorf("Get changed its bytes from %v to %v", kept, c.b)
		}
	}
}

func TestGetRefuses(t *testing.T) {
	for _, b := range [][]byte{nil, {}, make([]byte, 9), bytes.Repeat([]byte{1}, 9), bytes.Repeat([]byte{7}, 1000)} {
		if n, e := num.Get(b); n != 0 || e != api.ErrArg {
			t.Errorf("Get of %d bytes = %d, %d, want 0, %d", len(b), n, e, api.ErrArg)
		}
	}
}

// P1.3

func TestHex(t *testing.T) {
	for _, c := range []struct {
		n    uint64
		want string
	}{
		{0, "0000000000000000"},
		{255, "00000000000000ff"},
		{0x0123456789abcdef, "0123456789abcdef"},
		{0xfedcba9876543210, "fedcba9876543210"},
		{math.MaxUint64, "ffffffffffffffff"},
	} {
		if got := num.Hex(c.n); got != c.want {
			t.Errorf("Hex(%d) = %q, want %q", c.n, got, c.want)
		}
		if got, e := num.ReadHex(c.want); got != c.n || e != api.OK {
			t.Errorf("ReadHex(%q) = %d, %d, want %d", c.want, got, e, c.n)
		}
	}
}

func TestReadHexRefuses(t *testing.T) {
	for _, s := range []string{
		"", "0", "ff", "0000000000000ff", "000000000000000ff", "000000000000000000ff",
		"00000000000000FF", "00000000000000fF", "0x000000000000ff", "-0000000000000ff", "+0000000000000ff",
		" 0000000000000ff", "00000000000000f ", "00000000000000f\n", "00000000000000fg",
		"00000000000000é", strings.Repeat("0", 1000),
	} {
		if n, e := num.ReadHex(s); n != 0 || e != api.ErrHex {
			t.Errorf("ReadHex(%q) = %d, %d, want 0, %d", s, n, e, api.ErrHex)
		}
	}
}

func TestReadHexTakesDigitsAlone(t *testing.T) {
	for i := range 256 {
		digit := strings.IndexByte("0123456789abcdef", byte(i))
		for at := range 16 {
			b := []byte("0000000000000000")
			b[at] = byte(i)
			n, e := num.ReadHex(string(b))
			if digit >= 0 && (n != uint64(digit)<<(4*(15-at)) || e != api.OK) {
				t.Errorf("ReadHex(%q) = %d, %d", b, n, e)
			}
			if digit < 0 && (n != 0 || e != api.ErrHex) {
				t.Errorf("ReadHex(%q) = %d, %d, want 0, %d", b, n, e, api.ErrHex)
			}
		}
	}
}

// P1.4

func TestPlus(t *testing.T) {
	const top = math.MaxUint64
	for _, c := range []struct{ a, b, most, want uint64 }{
		{0, 0, 0, 0},
		{2, 3, 9, 5},
		{4, 5, 9, 9},
		{5, 5, 9, 9},
		{10, 0, 9, 9},
		{0, 10, 9, 9},
		{0, 1, 0, 0},
		{top, 1, 9, 9},
		{1, top, 9, 9},
		{top, top, 9, 9},
		{top, top, top, top},
		{top, 1, top, top},
		{top, 0, top, top},
		{top - 1, 1, top, top},
		{top - 1, 1, top - 1, top - 1},
		{1 << 63, 1 << 63, top, top},
		{1 << 63, 1 << 63, 1, 1},
		{1 << 62, 1 << 62, top, 1 << 63},
	} {
		if got := num.Plus(c.a, c.b, c.most); got != c.want {
			t.Errorf("Plus(%d, %d, %d) = %d, want %d", c.a, c.b, c.most, got, c.want)
		}
	}
}

func TestPlusLikeGreatNumbers(t *testing.T) {
	big1 := func(n uint64) *big.Int { return new(big.Int).SetUint64(n) }
	l := samples()
	r := rand.New(rand.NewSource(2))
	for range 20000 {
		a, b, most := l[r.Intn(len(l))], l[r.Intn(len(l))], l[r.Intn(len(l))]
		want := new(big.Int).Add(big1(a), big1(b))
		if want.Cmp(big1(most)) > 0 {
			want = big1(most)
		}
		if got := num.Plus(a, b, most); big1(got).Cmp(want) != 0 {
			t.Fatalf("Plus(%d, %d, %d) = %d, want %s", a, b, most, got, want)
		}
	}
}

// P1.5

func TestWrittenIsReadAsItWas(t *testing.T) {
	for _, n := range samples() {
		if got, e := num.Parse(num.Text(n)); got != n || e != api.OK {
			t.Errorf("the text of %d is read as %d, %d", n, got, e)
		}
		if got, e := num.ReadHex(num.Hex(n)); got != n || e != api.OK {
			t.Errorf("the hex text of %d is read as %d, %d", n, got, e)
		}
		for wide := 1; wide <= 8; wide++ {
			b, e := num.Put(n, wide)
			if e != api.OK {
				continue
			}
			if got, e := num.Get(b); got != n || e != api.OK {
				t.Errorf("%d bytes of %d are read as %d, %d", wide, n, got, e)
			}
		}
	}
}

// scraps are texts out of some letters, many of them nearly numbers.
func scraps(letters string, longest int) []string {
	l := []string{""}
	for _, a := range letters {
		l = append(l, string(a))
		for _, b := range letters {
			l = append(l, string(a)+string(b))
		}
	}
	r := rand.New(rand.NewSource(3))
	for range 3000 {
		b := make([]byte, r.Intn(longest+1))
		for i := range b {
			b[i] = letters[r.Intn(len(letters))]
		}
		l = append(l, string(b))
	}
	return l
}

func TestReadIsWrittenAsItStood(t *testing.T) {
	for _, s := range scraps("0123456789-+ a", 22) {
		if n, e := num.Parse(s); e == api.OK && num.Text(n) != s {
			t.Errorf("%q is read as %d, that is written %q", s, n, num.Text(n))
		}
	}
	for _, s := range scraps("0123456789", 21) {
		want, bad := strconv.ParseUint(s, 10, 64)
		good := bad == nil && (s == "0" || s[0] != '0')
		if n, e := num.Parse(s); good != (e == api.OK) || good && n != want {
			t.Errorf("Parse(%q) = %d, %d", s, n, e)
		}
	}
	r := rand.New(rand.NewSource(4))
	for range 3000 {
		b := make([]byte, 1+r.Intn(8))
		r.Read(b)
		n, e := num.Get(b)
		if again, e2 := num.Put(n, len(b)); e != api.OK || e2 != api.OK || !bytes.Equal(again, b) {
			t.Errorf("%v is read as %d, %d, that is written %v, %d", b, n, e, again, e2)
		}
		h := num.Hex(r.Uint64())
		if n, e := num.ReadHex(h); e != api.OK || num.Hex(n) != h {
			t.Errorf("%q is read as %d, %d, that is written %q", h, n, e, num.Hex(n))
		}
	}
}

// P1.6

func TestBytesAreInTheOrderOfNumbers(t *testing.T) {
	l := samples()
	for wide := 1; wide <= 8; wide++ {
		for i, a := range l {
			b := l[(i*7+3)%len(l)]
			x, e1 := num.Put(a, wide)
			y, e2 := num.Put(b, wide)
			if e1 == api.OK && e2 == api.OK && bytes.Compare(x, y) != cmp.Compare(a, b) {
				t.Errorf("%d and %d are not in the order of %v and %v", a, b, x, y)
			}
		}
	}
}
