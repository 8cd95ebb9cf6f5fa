package frame_test

import (
	"bytes"
	"math"
	"math/rand"
	"slices"
	"testing"

	"paravent/api"
	"paravent/frame"
)

const least = api.MaxFrame + 2

func made(t *testing.T, room int) *frame.Buffer {
	t.Helper()
	b, e := frame.New(room)
	if b == nil || e != api.OK {
		t.Fatalf("New(%d) = %v, %d", room, b, e)
	}
	return b
}

// run are n bytes that tell their places.
func run(n int) []byte {
	l := make([]byte, n)
	for i := range l {
		l[i] = byte(i*7 + i>>8 + 1)
	}
	return l
}

// head are the two bytes ahead of a body of n bytes, of those too that no frame of this program has.
func head(n int) []byte { return []byte{byte(n >> 8), byte(n)} }

func framed(body []byte) []byte { return append(head(len(body)), body...) }

func wantFeed(t *testing.T, b *frame.Buffer, l []byte, want bool) {
	t.Helper()
	kept := bytes.Clone(l)
	if got := b.Feed(l); got != want {
		t.Fatalf("Feed of %d bytes is %v, with %d that wait and %d to pass over", len(l), got, b.Waiting(), b.Over())
	}
	if !bytes.Equal(kept, l) {
		t.Fatal("Feed changes what is handed in")
	}
}

func wantStands(t *testing.T, b *frame.Buffer, waiting, over, ready int) {
	t.Helper()
	if b.Waiting() != waiting || b.Over() != over || b.Ready() != ready {
		t.Fatalf("%d wait, %d are to be passed over, %d is ready; want %d, %d, %d",
			b.Waiting(), b.Over(), b.Ready(), waiting, over, ready)
	}
}

func wantNext(t *testing.T, b *frame.Buffer, body []byte, kind int) {
	t.Helper()
	if ready := b.Ready(); ready != kind {
		t.Fatalf("Ready is %d, want %d", ready, kind)
	}
	if got, k := b.Next(); !bytes.Equal(got, body) || k != kind {
		t.Fatalf("Next is %v, %d, want %v, %d", got, k, body, kind)
	}
}

// P5.1

func TestFrame(t *testing.T) {
	for _, c := range []struct{ body, want []byte }{
		{[]byte{7}, []byte{0, 1, 7}},
		{nil, []byte{0, 0}},
		{[]byte{}, []byte{0, 0}},
		{[]byte{0, 1}, []byte{0, 2, 0, 1}},
		{run(255), append([]byte{0, 255}, run(255)...)},
		{run(256), append([]byte{1, 0}, run(256)...)},
		{run(600), append([]byte{2, 88}, run(600)...)},
	} {
		kept := bytes.Clone(c.body)
		if got, e := frame.Frame(c.body); !bytes.Equal(got, c.want) || e != api.OK {
			t.Errorf("the frame of %d bytes is %v, %d", len(c.body), got, e)
		}
		if !bytes.Equal(kept, c.body) {
			t.Errorf("Frame changes what is handed in, %d bytes", len(c.body))
		}
	}
	for _, n := range []int{601, 602, 1000, 65535, 65536, 65537, 1 << 20} {
		if got, e := frame.Frame(make([]byte, n)); len(got) != 0 || e != api.ErrLong {
			t.Errorf("the frame of %d bytes has %d, %d, want none, %d", n, len(got), e, api.ErrLong)
		}
	}
}

func TestFrameAnswersNewMemory(t *testing.T) {
	whole := run(20)
	body := whole[4:8]
	f, _ := frame.Frame(body)
	g, _ := frame.Frame(body)
	for i := range f {
		f[i] = 200
	}
	_ = append(f, 201)
	if !bytes.Equal(whole, run(20)) || !bytes.Equal(g, framed(run(20)[4:8])) {
		t.Error("a frame that is changed changes its body, or another frame:", whole, g)
	}
	for i := range whole {
		whole[i] = 0
	}
	if !bytes.Equal(g, framed(run(20)[4:8])) {
		t.Error("a body that is changed changes its frame:", g)
	}
}

func TestNew(t *testing.T) {
	for _, room := range []int{602, 603, 1000, 4095, 4096} {
		wantStands(t, made(t, room), 0, 0, api.FrameNone)
		wantNext(t, made(t, room), nil, api.FrameNone)
	}
	for _, room := range []int{601, 600, 2, 1, 0, -1, -602, 4097, 5000, 65536, math.MaxInt, math.MinInt} {
		if b, e := frame.New(room); b != nil || e != api.ErrArg {
			t.Errorf("New(%d) = %v, %d, want none, %d", room, b, e, api.ErrArg)
		}
	}
}

func TestNil(t *testing.T) {
	var b *frame.Buffer
	for _, l := range [][]byte{nil, {}, {0}, {0, 1, 7}, run(5000)} {
		wantFeed(t, b, l, false)
		wantStands(t, b, 0, 0, api.FrameNone)
		wantNext(t, b, nil, api.FrameNone)
	}
}

// P1: a buffer that New did not make is one to be asked, too.
func TestUnmadeDoesNotPanic(t *testing.T) {
	b := &frame.Buffer{}
	for _, l := range [][]byte{nil, {0}, {0, 0}, {0, 1, 7}, {255, 255, 1}, run(5000)} {
		b.Feed(l)
		b.Ready()
		b.Next()
		b.Waiting()
		b.Over()
	}
}

// P5.2

func TestFeedUpToTheRoom(t *testing.T) {
	for _, room := range []int{602, 700, 4096} {
		for _, first := range []int{0, 1, 2, 300, room - 1, room} {
			b := made(t, room)
			all := append(head(600), run(room)...)[:room]
			wantFeed(t, b, all[:first], true)
			wantFeed(t, b, make([]byte, room-first+1), false)
			wantFeed(t, b, make([]byte, room+1), false)
			wantFeed(t, b, make([]byte, 70000), false)
			if b.Waiting() != first || b.Over() != 0 {
				t.Fatalf("bytes that do not come in change what waits: %d, %d", b.Waiting(), b.Over())
			}
			wantFeed(t, b, all[first:], true)
			wantStands(t, b, room, 0, api.FrameWhole)
			wantFeed(t, b, []byte{1}, false)
			wantFeed(t, b, nil, true)
			wantFeed(t, b, []byte{}, true)
			wantStands(t, b, room, 0, api.FrameWhole)
			wantNext(t, b, run(600), api.FrameWhole)
		}
	}
}

func TestFrameThatIsTakenMakesRoom(t *testing.T) {
	b := made(t, least)
	wantFeed(t, b, framed(run(600)), true)
	wantFeed(t, b, []byte{0}, false)
	wantNext(t, b, run(600), api.FrameWhole)
	wantStands(t, b, 0, 0, api.FrameNone)
	wantFeed(t, b, framed(run(600)), true)
	wantNext(t, b, run(600), api.FrameWhole)
	// Many more bytes go through than there is room.
	for i := range 3000 {
		body := run(i % 601)
		wantFeed(t, b, framed(body), true)
		wantNext(t, b, body, api.FrameWhole)
	}
	wantStands(t, b, 0, 0, api.FrameNone)
}

func TestFeedPassesOver(t *testing.T) {
	for _, room := range []int{602, 4096} {
		b := made(t, room)
		wantFeed(t, b, head(5000), true)
		wantNext(t, b, nil, api.FrameOver)
		wantStands(t, b, 0, 5000, api.FrameNone)
		wantNext(t, b, nil, api.FrameNone)
		wantStands(t, b, 0, 5000, api.FrameNone)
		wantFeed(t, b, nil, true)
		wantFeed(t, b, []byte{0}, true)
		wantStands(t, b, 0, 4999, api.FrameNone)
		// Behind what is dropped there are one too many: nothing changes, what is dropped neither.
		wantFeed(t, b, make([]byte, 4999+room+1), false)
		wantStands(t, b, 0, 4999, api.FrameNone)
		wantFeed(t, b, make([]byte, 4900), true)
		wantStands(t, b, 0, 99, api.FrameNone)
		wantFeed(t, b, make([]byte, 99+room+1), false)
		wantStands(t, b, 0, 99, api.FrameNone)
		// As many as the room has left may come in behind what is dropped.
		wantFeed(t, b, slices.Concat(make([]byte, 99), framed(run(600)), run(room-least)), true)
		wantStands(t, b, room, 0, api.FrameWhole)
		wantNext(t, b, run(600), api.FrameWhole)
		wantStands(t, b, room-least, 0, b.Ready())
	}
}

func TestFeedPassesOverJustAsMany(t *testing.T) {
	b := made(t, least)
	wantFeed(t, b, head(700), true)
	wantNext(t, b, nil, api.FrameOver)
	wantFeed(t, b, run(700), true)
	wantStands(t, b, 0, 0, api.FrameNone)
	wantFeed(t, b, []byte{0, 2, 5, 6}, true)
	wantNext(t, b, []byte{5, 6}, api.FrameWhole)
}

func TestFeedKeepsNothingOfWhatIsHandedIn(t *testing.T) {
	b := made(t, 4096)
	l := append(framed([]byte{1, 2, 3}), 0, 2)
	wantFeed(t, b, l[:3], true)
	wantFeed(t, b, l[3:], true)
	clear(l)
	tail := []byte{8, 9}
	wantFeed(t, b, tail, true)
	clear(tail)
	wantNext(t, b, []byte{1, 2, 3}, api.FrameWhole)
	wantNext(t, b, []byte{8, 9}, api.FrameWhole)
	// Of what is handed in nothing is changed either, where it has room behind.
	long := run(100)
	wantFeed(t, b, long[:3], true)
	wantFeed(t, b, []byte{77, 78}, true)
	if !bytes.Equal(long, run(100)) {
		t.Error("what is handed in was written behind")
	}
}

func TestBuffersAreApart(t *testing.T) {
	a, b := made(t, 602), made(t, 602)
	wantFeed(t, a, []byte{0, 1, 7}, true)
	wantStands(t, b, 0, 0, api.FrameNone)
	wantFeed(t, b, []byte{9, 9}, true)
	wantNext(t, b, nil, api.FrameOver)
	wantStands(t, a, 3, 0, api.FrameWhole)
	wantNext(t, a, []byte{7}, api.FrameWhole)
}

// P5.3

func TestExample(t *testing.T) {
	b := made(t, 602)
	wantFeed(t, b, []byte{0}, true)
	wantStands(t, b, 1, 0, api.FrameNone)
	wantFeed(t, b, []byte{1, 7, 0}, true)
	wantNext(t, b, []byte{7}, api.FrameWhole)
	wantNext(t, b, nil, api.FrameNone)
	wantStands(t, b, 1, 0, api.FrameNone)
}

func TestNextOfTooFewBytes(t *testing.T) {
	for _, n := range []int{1, 2, 3, 255, 256, 257, 599, 600} {
		whole := framed(run(n))
		b := made(t, 602)
		for i := range whole {
			for range 2 {
				wantNext(t, b, nil, api.FrameNone)
				wantStands(t, b, i, 0, api.FrameNone)
			}
			wantFeed(t, b, whole[i:i+1], true)
		}
		wantStands(t, b, n+2, 0, api.FrameWhole)
		wantNext(t, b, run(n), api.FrameWhole)
		wantStands(t, b, 0, 0, api.FrameNone)
	}
}

func TestNextOfAnEmptyBody(t *testing.T) {
	b := made(t, 602)
	wantFeed(t, b, []byte{0, 0, 0, 0, 0}, true)
	wantNext(t, b, nil, api.FrameWhole)
	wantStands(t, b, 3, 0, api.FrameWhole)
	wantNext(t, b, nil, api.FrameWhole)
	wantStands(t, b, 1, 0, api.FrameNone)
	wantNext(t, b, nil, api.FrameNone)
}

func TestNextOfATooLongFrame(t *testing.T) {
	for _, n := range []int{601, 602, 767, 768, 1000, 4096, 32768, 65535} {
		for _, wait := range []int{0, 1, 2, 300, 599, 600, 601, n - 1, n, n + 1, n + 4} {
			if wait+2 > api.MaxRoom {
				continue
			}
			b := made(t, api.MaxRoom)
			// Two bytes alone tell that it is too long.
			wantFeed(t, b, head(n)[:1], true)
			wantStands(t, b, 1, 0, api.FrameNone)
			wantFeed(t, b, append(head(n)[1:], make([]byte, wait)...), true)
			wantStands(t, b, wait+2, 0, api.FrameOver)
			wantNext(t, b, nil, api.FrameOver)
			if b.Waiting() != max(wait-n, 0) || b.Over() != max(n-wait, 0) {
				t.Fatalf("of a body of %d, %d of which wait, %d wait and %d are to be passed over",
					n, wait, b.Waiting(), b.Over())
			}
		}
	}
}

func TestFrameBehindATooLongOne(t *testing.T) {
	b := made(t, 4096)
	wantFeed(t, b, slices.Concat(framed([]byte{1}), head(601), run(601), framed([]byte{2, 3}), head(700), run(5)), true)
	wantNext(t, b, []byte{1}, api.FrameWhole)
	wantNext(t, b, nil, api.FrameOver)
	wantStands(t, b, 4+7, 0, api.FrameWhole)
	wantNext(t, b, []byte{2, 3}, api.FrameWhole)
	wantNext(t, b, nil, api.FrameOver)
	wantStands(t, b, 0, 695, api.FrameNone)
	wantFeed(t, b, append(make([]byte, 695), 0, 1, 4), true)
	wantNext(t, b, []byte{4}, api.FrameWhole)
}

func TestReadyChangesNothing(t *testing.T) {
	b := made(t, 602)
	wantFeed(t, b, slices.Concat(framed([]byte{5}), head(601), []byte{1}), true)
	for range 3 {
		wantStands(t, b, 6, 0, api.FrameWhole)
	}
	wantNext(t, b, []byte{5}, api.FrameWhole)
	for range 3 {
		wantStands(t, b, 3, 0, api.FrameOver)
	}
	wantNext(t, b, nil, api.FrameOver)
	wantStands(t, b, 0, 600, api.FrameNone)
}

func TestNextAnswersNewMemory(t *testing.T) {
	b := made(t, 602)
	wantFeed(t, b, slices.Concat(framed([]byte{1, 2}), framed([]byte{3, 4}), framed([]byte{5})), true)
	one, _ := b.Next()
	clear(one)
	_ = append(one, 99, 99, 99, 99)
	two, _ := b.Next()
	if !bytes.Equal(two, []byte{3, 4}) {
		t.Fatal("an answer that is changed changes what waits:", two)
	}
	wantFeed(t, b, run(590), true)
	wantNext(t, b, []byte{5}, api.FrameWhole)
	if !bytes.Equal(one, []byte{0, 0}) || !bytes.Equal(two, []byte{3, 4}) {
		t.Error("what comes in changes earlier answers:", one, two)
	}
}

// Through random turns a buffer is held against the document's words.

type model struct {
	room, over int
	waits      []byte
}

func (m *model) feed(l []byte) bool {
	drop := m.over
	if drop > len(l) {
		drop = len(l)
	}
	if len(m.waits)+len(l)-drop > m.room {
		return false
	}
	m.over -= drop
	m.waits = slices.Concat(m.waits, l[drop:])
	return true
}

func (m *model) next() ([]byte, int) {
	if len(m.waits) < 2 {
		return nil, api.FrameNone
	}
	n := 256*int(m.waits[0]) + int(m.waits[1])
	if n > 600 {
		m.waits = m.waits[2:]
		for m.over = n; m.over > 0 && len(m.waits) > 0; m.over-- {
			m.waits = m.waits[1:]
		}
		return nil, api.FrameOver
	}
	if len(m.waits) < 2+n {
		return nil, api.FrameNone
	}
	body := m.waits[2 : 2+n]
	m.waits = m.waits[2+n:]
	return body, api.FrameWhole
}

// stream are frames' bytes, of which some are too long; whole are the bodies that come out, nil for a frame that is too long.
func stream(r *rand.Rand, frames int) (l []byte, whole [][]byte) {
	for range frames {
		n := []int{0, 1, r.Intn(20), r.Intn(601), 600, 601, 601 + r.Intn(500)}[r.Intn(7)]
		body := make([]byte, n)
		r.Read(body)
		l = append(l, framed(body)...)
		if n > 600 {
			body = nil
		}
		whole = append(whole, body)
	}
	return l, whole
}

func TestAgainstTheWords(t *testing.T) {
	r := rand.New(rand.NewSource(1))
	for i := range 60 {
		m := &model{room: 602 + r.Intn(3)*r.Intn(1748)}
		b := made(t, m.room)
		l, _ := stream(r, 60)
		for len(l) > 0 {
			n := min(1+r.Intn([]int{3, 700, 5000}[i%3]), len(l))
			want := m.feed(l[:n])
			wantFeed(t, b, l[:n], want)
			if want {
				l = l[n:]
			}
			for range r.Intn(3) {
				body, kind := m.next()
				wantNext(t, b, body, kind)
			}
			if b.Waiting() != len(m.waits) || b.Over() != m.over {
				t.Fatalf("%d wait, %d are to be passed over; want %d, %d", b.Waiting(), b.Over(), len(m.waits), m.over)
			}
			wantWithin(t, b, m.room)
		}
	}
}

// P5.4 and P5.5

// taken are the bodies that come out of bytes fed in pieces, where frames are taken as soon as they are there.
func taken(t *testing.T, room int, l []byte, piece func() int) [][]byte {
	t.Helper()
	b := made(t, room)
	var all [][]byte
	for len(l) > 0 {
		n := min(max(piece(), 1), room, len(l))
		// What the room does not take at once goes in smaller pieces.
		for n > 1 && b.Waiting()+n > room {
			n--
		}
		wantFeed(t, b, l[:n], true)
		l = l[n:]
		for range room {
			body, kind := b.Next()
			if kind == api.FrameNone {
				break
			}
			if kind == api.FrameOver {
				if len(body) != 0 {
					t.Fatal("a frame that is too long has a body")
				}
				body = nil
			} else if body == nil {
				body = []byte{}
			}
			all = append(all, body)
			wantWithin(t, b, room)
		}
	}
	return all
}

func TestPiecesDoNotMatter(t *testing.T) {
	r := rand.New(rand.NewSource(2))
	for range 12 {
		l, whole := stream(r, 40)
		for _, room := range []int{602, 603, 1000, 4096} {
			for what, piece := range map[string]func() int{
				"single bytes": func() int { return 1 },
				"twos":         func() int { return 2 },
				"sevens":       func() int { return 7 },
				"any":          func() int { return r.Intn(900) },
				"all":          func() int { return room },
			} {
				got := taken(t, room, l, piece)
				same := func(a, b []byte) bool { return (a == nil) == (b == nil) && bytes.Equal(a, b) }
				if !slices.EqualFunc(got, whole, same) {
					t.Fatalf("in pieces (%s) %d frames come out, of %d, or others", what, len(got), len(whole))
				}
			}
		}
	}
}

func TestBodiesComeOutAsTheyWere(t *testing.T) {
	b := made(t, 1300)
	for n := range 601 {
		one, two := run(n), bytes.Repeat([]byte{byte(n)}, n)
		for _, body := range [][]byte{one, two} {
			f, e := frame.Frame(body)
			if e != api.OK {
				t.Fatalf("the frame of %d bytes: %d", n, e)
			}
			wantFeed(t, b, f, true)
		}
		wantNext(t, b, one, api.FrameWhole)
		wantNext(t, b, two, api.FrameWhole)
		wantNext(t, b, nil, api.FrameNone)
	}
}

// P5.6

func wantWithin(t *testing.T, b *frame.Buffer, room int) {
	t.Helper()
	if b.Waiting() < 0 || b.Waiting() > room || b.Over() < 0 || b.Waiting() > 0 && b.Over() > 0 {
		t.Fatalf("of the room %d, %d wait and %d are to be passed over", room, b.Waiting(), b.Over())
	}
}

func TestNoMoreWaitThanThereIsRoom(t *testing.T) {
	r := rand.New(rand.NewSource(3))
	for _, room := range []int{602, 800, 4096} {
		b := made(t, room)
		for range 3000 {
			l := make([]byte, r.Intn(1<<r.Intn(14)))
			for i := range l {
				l[i] = byte(r.Intn(4))
			}
			waiting, over := b.Waiting(), b.Over()
			fits := waiting+len(l)-min(over, len(l)) <= room
			wantFeed(t, b, l, fits)
			if !fits && (b.Waiting() != waiting || b.Over() != over) {
				t.Fatal("what does not come in changes what waits")
			}
			wantWithin(t, b, room)
			if r.Intn(2) == 0 {
				b.Next()
			}
			wantWithin(t, b, room)
		}
	}
}
