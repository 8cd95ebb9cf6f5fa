package secret_test

import (
	"math"
	"math/rand"
	"slices"
	"strconv"
	"strings"
	"testing"

	"paravent/api"
	"paravent/secret"
)

// samples are numbers that are close to one another in some way: by a bit, by a byte, by the half that they are of.
func samples() []uint64 {
	l := []uint64{0, math.MaxUint64, 1 << 63, math.MaxInt64, math.MaxUint32, 1 << 32, 5, 7, 255, 256, 0x0102030405060708, 0x0807060504030201, 0x0101010101010101, 0x8080808080808080}
	for i := range 64 {
		l = append(l, 1<<i, math.MaxUint64^1<<i, 0x0102030405060708^1<<i)
	}
	for i := range 8 {
		l = append(l, 0xff<<(8*i), 0x55<<(8*i))
	}
	return l
}

// someList is a list in which numbers may stand more than once, zeros too.
func someList(r *rand.Rand) []uint64 {
	all := samples()
	l := make([]uint64, r.Intn(12))
	for i := range l {
		l[i] = all[r.Intn(len(all))]
		if r.Intn(3) == 0 {
			l[i] = uint64(r.Intn(5)) << (8 * r.Intn(8))
		}
	}
	return l
}

// placeOf is where a secret stands in the document's words.
func placeOf(l []uint64, s uint64) int {
	if s == 0 {
		return -1
	}
	return slices.Index(l, s)
}

// P15.1

func TestEqual(t *testing.T) {
	for _, a := range samples() {
		for _, b := range samples() {
			if same, steps := secret.Equal(a, b); same != (a == b) || steps != 8 {
				t.Errorf("Equal(%x, %x) = %v, %d", a, b, same, steps)
			}
		}
	}
}

func TestEqualOfWhatDiffersByTwoBits(t *testing.T) {
	// Bits that differ in two bytes must not hide one another.
	for i := range 64 {
		for j := range 64 {
			a := uint64(0x123456789abcdef0)
			b := a ^ 1<<i ^ 1<<j
			if same, steps := secret.Equal(a, b); same != (i == j) || steps != 8 {
				t.Errorf("Equal(%x, %x) = %v, %d", a, b, same, steps)
			}
		}
	}
}

func TestFind(t *testing.T) {
	const most = math.MaxUint64
	for _, c := range []struct {
		l     []uint64
		s     uint64
		place int
		steps int
	}{
		{[]uint64{5, 7, 7}, 7, 1, 24},
		{[]uint64{5, 7, 7}, 0, -1, 24},
		{[]uint64{5, 7, 7}, 5, 0, 24},
		{[]uint64{5, 7, 7}, 6, -1, 24},
		{nil, 5, -1, 0},
		{[]uint64{}, 5, -1, 0},
		{nil, 0, -1, 0},
		{[]uint64{5}, 5, 0, 8},
		{[]uint64{5}, 1280, -1, 8},
		{[]uint64{0}, 0, -1, 8},
		{[]uint64{0, 0, 0}, 0, -1, 24},
		{[]uint64{0, 5, 0, 5}, 5, 1, 32},
		{[]uint64{1, 2, 3, 4, 5, 6, 7, 8}, 8, 7, 64},
		{[]uint64{most, 1 << 63, most - 1}, most - 1, 2, 24},
		{[]uint64{most, most}, most, 0, 16},
		{slices.Repeat([]uint64{9}, 1000), 9, 0, 8000},
		{append(slices.Repeat([]uint64{9}, 1000), 8), 8, 1000, 8008},
	} {
		if place, steps := secret.Find(c.l, c.s); place != c.place || steps != c.steps {
			t.Errorf("Find(%v, %d) = %d, %d, want %d, %d", c.l, c.s, place, steps, c.place, c.steps)
		}
	}
}

// P15.2

func TestFresh(t *testing.T) {
	const most = math.MaxUint64
	for _, c := range []struct {
		l    []uint64
		draw uint64
		err  api.Errno
	}{
		{nil, 5, api.OK},
		{[]uint64{}, 5, api.OK},
		{nil, most, api.OK},
		{nil, 1, api.OK},
		{nil, 0, api.ErrDraw},
		{[]uint64{}, 0, api.ErrDraw},
		{[]uint64{5, 6}, 0, api.ErrDraw},
		{[]uint64{0}, 0, api.ErrDraw}, // told ahead of ErrTwice
		{[]uint64{5}, 5, api.ErrTwice},
		{[]uint64{5, 6, 7}, 5, api.ErrTwice},
		{[]uint64{5, 6, 7}, 6, api.ErrTwice},
		{[]uint64{5, 6, 7}, 7, api.ErrTwice},
		{[]uint64{7, 7}, 7, api.ErrTwice},
		{[]uint64{1, most}, most, api.ErrTwice},
		{[]uint64{5, 6, 7}, 8, api.OK},
		{[]uint64{5 << 8, 5 << 56, 0, 4}, 5, api.OK},
	} {
		want := c.draw
		if c.err != api.OK {
			want = 0
		}
		if s, e := secret.Fresh(c.l, c.draw); s != want || e != c.err {
			t.Errorf("Fresh(%v, %d) = %d, %d, want %d, %d", c.l, c.draw, s, e, want, c.err)
		}
	}
}

func TestMask(t *testing.T) {
	for s, want := range map[uint64]string{
		255:                "00**************",
		0:                  "00**************",
		1 << 56:            "01**************",
		0xffffffffffffff:   "00**************",
		0x0a00000000000001: "0a**************",
		0xa0ffffffffffffff: "a0**************",
		0x9876543210fedcba: "98**************",
		0xcd00000000000000: "cd**************",
		1 << 63:            "80**************",
		math.MaxUint64:     "ff**************",
	} {
		if got := secret.Mask(s); got != want {
			t.Errorf("Mask(%x) is %q, not %q", s, got, want)
		}
	}
	for first := range uint64(256) {
		digits := strconv.FormatUint(256+first, 16)[1:]
		for _, rest := range []uint64{0, 1, 1<<56 - 1, 0x0102030405060708 >> 8} {
			if got := secret.Mask(first<<56 | rest); got != digits+strings.Repeat("*", 14) {
				t.Errorf("Mask(%x) is %q", first<<56|rest, got)
			}
		}
	}
}

// P15.3

func TestStepsHangOnHowManyThereAre(t *testing.T) {
	r := rand.New(rand.NewSource(1))
	for range 5000 {
		l := someList(r)
		for _, s := range []uint64{0, 1, r.Uint64(), samples()[r.Intn(len(samples()))], append(l, 3)[r.Intn(len(l)+1)]} {
			if _, steps := secret.Find(l, s); steps != 8*len(l) {
				t.Fatalf("Find(%v, %d) takes %d steps", l, s, steps)
			}
		}
	}
}

// P15.4, and P15.1 and P15.2 for lists of all kinds.

func TestWhatIsFound(t *testing.T) {
	r := rand.New(rand.NewSource(2))
	places := map[int]int{}
	for range 5000 {
		l := someList(r)
		before := slices.Clone(l)
		for _, s := range append(slices.Clone(l), 0, 1, r.Uint64(), samples()[r.Intn(len(samples()))]) {
			place, _ := secret.Find(l, s)
			places[place]++
			if want := placeOf(l, s); place != want {
				t.Fatalf("Find(%v, %d) is %d, not %d", l, s, place, want)
			}
			if place >= 0 && (l[place] != s || slices.Contains(l[:place], s)) {
				t.Fatalf("Find(%v, %d) is %d", l, s, place)
			}
			fresh, e := secret.Fresh(l, s)
			if (e == api.OK) != (s != 0 && place < 0) || e == api.OK && fresh != s || e != api.OK && fresh != 0 {
				t.Fatalf("Fresh(%v, %d) = %d, %d", l, s, fresh, e)
			}
		}
		if !slices.Equal(l, before) {
			t.Fatalf("%v has become %v", before, l)
		}
	}
	if len(places) < 10 {
		t.Error("too plain:", places)
	}
}
