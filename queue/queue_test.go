package queue_test

import (
	"math"
	"math/rand"
	"slices"
	"testing"

	"paravent/api"
	"paravent/queue"
)

func en(key, tie uint64, item int) api.Entry { return api.Entry{Key: key, Tie: tie, Item: item} }

// ranked are entries in order, each after all that are less: what differs, and by how much, turns with each.
func ranked() []api.Entry {
	return []api.Entry{
		en(0, 0, math.MinInt), en(0, 0, -1), en(0, 0, 0), en(0, 0, 1), en(0, 0, math.MaxInt),
		en(0, 1, -5), en(0, 1, 7), en(0, 1<<63, 0), en(0, math.MaxUint64, -9),
		en(1, 0, 100), en(1, 5, 8), en(1, 5, 9), en(1, 6, math.MinInt),
		en(2, 0, 1), en(1<<32, 3, 3), en(1<<63-1, 9, 9), en(1<<63, 0, 0),
		en(math.MaxUint64, 0, math.MaxInt), en(math.MaxUint64, math.MaxUint64, math.MaxInt),
	}
}

// some are entries of which many are the same, or nearly.
func some(r *rand.Rand, n int) []api.Entry {
	l := make([]api.Entry, n)
	for i := range l {
		l[i] = en(uint64(r.Intn(3)), uint64(r.Intn(3)), r.Intn(5)-2)
	}
	return l
}

// inOrder are entries put in order by their places among those that are less, with no library's help.
func inOrder(l []api.Entry) []api.Entry {
	var sorted []api.Entry
	for _, e := range l {
		at := 0
		for at < len(sorted) && !ahead(e, sorted[at]) {
			at++
		}
		sorted = slices.Insert(sorted, at, e)
	}
	return sorted
}

// ahead is the document's order.
func ahead(a, b api.Entry) bool {
	switch {
	case a.Key != b.Key:
		return a.Key < b.Key
	case a.Tie != b.Tie:
		return a.Tie < b.Tie
	}
	return a.Item < b.Item
}

func filled(l []api.Entry) *queue.Queue {
	q := queue.New()
	for _, e := range l {
		q.Push(e)
	}
	return q
}

func wantEntries(t *testing.T, what string, got, want []api.Entry) {
	t.Helper()
	if !slices.Equal(got, want) {
		t.Fatalf("%s: %v, want %v", what, got, want)
	}
}

func wantEmpty(t *testing.T, what string, q *queue.Queue) {
	t.Helper()
	if n := q.Len(); n != 0 {
		t.Errorf("%s: Len is %d", what, n)
	}
	if e, ok := q.Top(); e != (api.Entry{}) || ok {
		t.Errorf("%s: Top is %v, %v", what, e, ok)
	}
	if e, ok := q.Pop(); e != (api.Entry{}) || ok {
		t.Errorf("%s: Pop is %v, %v", what, e, ok)
	}
	for _, most := range []int{1, 5, math.MaxInt, 0, -1, math.MinInt} {
		if l := q.Drain(most); len(l) != 0 {
			t.Errorf("%s: Drain(%d) is %v", what, most, l)
		}
	}
}

// P4.1

func TestExample(t *testing.T) {
	q := filled([]api.Entry{en(2, 0, 1), en(1, 5, 9), en(1, 5, 8)})
	for _, want := range []api.Entry{en(1, 5, 8), en(1, 5, 9), en(2, 0, 1)} {
		if e, ok := q.Pop(); e != want || !ok {
			t.Errorf("Pop is %v, %v, want %v", e, ok, want)
		}
	}
	wantEmpty(t, "all taken", q)
}

func TestEmpty(t *testing.T) {
	wantEmpty(t, "new", queue.New())
	q := queue.New()
	wantEmpty(t, "asked ahead of the first entry", q)
	if !q.Push(en(3, 2, 1)) || q.Len() != 1 {
		t.Error("after Push there are", q.Len())
	}
	if e, ok := q.Top(); e != en(3, 2, 1) || !ok {
		t.Error("Top is", e, ok)
	}
}

func TestNil(t *testing.T) {
	var q *queue.Queue
	if q.Push(en(1, 1, 1)) || q.Push(en(0, 0, 0)) {
		t.Error("a nil queue takes an entry")
	}
	wantEmpty(t, "nil", q)
}

// P1: a queue that New did not make is one to be asked, too.
func TestUnmadeDoesNotPanic(t *testing.T) {
	q := &queue.Queue{}
	q.Top()
	q.Pop()
	q.Drain(3)
	q.Len()
	q.Push(en(1, 1, 1))
	q.Top()
	q.Drain(3)
}

func TestZeroEntryIsOne(t *testing.T) {
	q := filled([]api.Entry{en(0, 0, 0), en(0, 0, 0)})
	if e, ok := q.Top(); e != en(0, 0, 0) || !ok || q.Len() != 2 {
		t.Error("Top is", e, ok, "of", q.Len())
	}
	for range 2 {
		if e, ok := q.Pop(); e != en(0, 0, 0) || !ok {
			t.Error("Pop is", e, ok)
		}
	}
	wantEmpty(t, "both taken", q)
}

func TestTopLeavesWhatThereIs(t *testing.T) {
	q := filled(ranked())
	for range 3 {
		if e, ok := q.Top(); e != ranked()[0] || !ok || q.Len() != len(ranked()) {
			t.Fatal("Top is", e, ok, "of", q.Len())
		}
	}
	wantEntries(t, "asked for the top", q.Drain(len(ranked())), ranked())
}

func TestDrain(t *testing.T) {
	all := ranked()
	for _, most := range []int{math.MinInt, -1, 0, 1, 2, len(all) - 1, len(all), len(all) + 1, 1000, math.MaxInt} {
		q := filled(all)
		n := min(max(most, 0), len(all))
		wantEntries(t, "drained", q.Drain(most), all[:n])
		if q.Len() != len(all)-n {
			t.Errorf("Drain(%d) leaves %d", most, q.Len())
		}
		wantEntries(t, "what is left", q.Drain(math.MaxInt), all[n:])
		wantEmpty(t, "drained", q)
	}
}

func TestDrainAnswersNewMemory(t *testing.T) {
	q := filled(ranked())
	l := q.Drain(4)
	for i := range l {
		l[i] = en(77, 7, 7)
	}
	_ = append(l, en(78, 8, 8))
	kept := slices.Clone(l)
	for range 4 {
		q.Push(en(0, 0, 0))
	}
	wantEntries(t, "an answer that entries are put behind", l, kept)
	want := append(slices.Repeat([]api.Entry{en(0, 0, 0)}, 4), ranked()[4:]...)
	wantEntries(t, "a queue whose answer was changed", q.Drain(100), want)
}

func TestQueuesAreApart(t *testing.T) {
	a, b := queue.New(), queue.New()
	a.Push(en(1, 0, 0))
	b.Push(en(2, 0, 0))
	b.Push(en(0, 0, 0))
	if a.Len() != 1 || b.Len() != 2 {
		t.Error("there are", a.Len(), "and", b.Len())
	}
	wantEntries(t, "the one", a.Drain(9), []api.Entry{en(1, 0, 0)})
	wantEntries(t, "the other", b.Drain(9), []api.Entry{en(0, 0, 0), en(2, 0, 0)})
}

// TestAgainstAList holds a queue against a list in order, through many turns.
func TestAgainstAList(t *testing.T) {
	r := rand.New(rand.NewSource(1))
	for range 30 {
		q := queue.New()
		var l []api.Entry
		for range 400 {
			switch r.Intn(6) {
			case 0, 1, 2:
				e := some(r, 1)[0]
				if !q.Push(e) {
					t.Fatal("Push is false")
				}
				l = inOrder(append(l, e))
			case 3, 4:
				e, ok := q.Pop()
				if ok != (len(l) > 0) || ok && e != l[0] || !ok && e != (api.Entry{}) {
					t.Fatalf("Pop is %v, %v of %v", e, ok, l)
				}
				if ok {
					l = l[1:]
				}
			case 5:
				n := min(r.Intn(4), len(l))
				wantEntries(t, "drained", q.Drain(n), l[:n])
				l = l[n:]
			}
			if q.Len() != len(l) {
				t.Fatalf("Len is %d of %v", q.Len(), l)
			}
			if e, ok := q.Top(); ok != (len(l) > 0) || ok && e != l[0] {
				t.Fatalf("Top is %v, %v of %v", e, ok, l)
			}
		}
	}
}

// P4.2

func TestLess(t *testing.T) {
	all := ranked()
	for i, a := range all {
		for j, b := range all {
			if got := queue.Less(a, b); got != (i < j) {
				t.Errorf("Less(%v, %v) is %v", a, b, got)
			}
		}
	}
}

func TestSort(t *testing.T) {
	wantEntries(t, "nothing", queue.Sort(nil), nil)
	wantEntries(t, "no elements", queue.Sort([]api.Entry{}), nil)
	wantEntries(t, "one", queue.Sort([]api.Entry{en(4, 5, 6)}), []api.Entry{en(4, 5, 6)})
	r := rand.New(rand.NewSource(2))
	for range 50 {
		l := ranked()
		r.Shuffle(len(l), func(i, j int) { l[i], l[j] = l[j], l[i] })
		wantEntries(t, "shuffled", queue.Sort(l), ranked())
	}
	for n := range 120 {
		l := some(r, n)
		wantEntries(t, "with many that are the same", queue.Sort(l), inOrder(l))
	}
	backwards := ranked()
	slices.Reverse(backwards)
	wantEntries(t, "backwards", queue.Sort(backwards), ranked())
}

func TestSortLeavesWhatIsHandedIn(t *testing.T) {
	r := rand.New(rand.NewSource(3))
	for n := 1; n < 40; n++ {
		for _, l := range [][]api.Entry{some(r, n), inOrder(some(r, n))} {
			kept := slices.Clone(l)
			sorted := queue.Sort(l)
			wantEntries(t, "what was handed in", l, kept)
			for i := range sorted {
				sorted[i] = en(99, 9, 9)
			}
			wantEntries(t, "what was handed in, once the answer is changed", l, kept)
			again := queue.Sort(l)
			for i := range l {
				l[i] = en(98, 8, 8)
			}
			wantEntries(t, "the answer, once what was handed in is changed", again, inOrder(kept))
		}
	}
	long := ranked()
	queue.Sort(append(long[:3:len(long)], en(5, 5, 5))[:2])
	wantEntries(t, "what stands behind", long[4:], ranked()[4:])
}

// P4.3

func TestWhatIsDrainedIsInOrderEachAsOften(t *testing.T) {
	r := rand.New(rand.NewSource(4))
	for n := range 200 {
		l := some(r, n)
		q := filled(l)
		if q.Len() != n {
			t.Fatalf("of %d entries there are %d", n, q.Len())
		}
		got := q.Drain(n + 1)
		times := map[api.Entry]int{}
		for i, e := range got {
			if i > 0 && queue.Less(e, got[i-1]) {
				t.Fatalf("%v comes after %v", e, got[i-1])
			}
			times[e]++
		}
		for _, e := range l {
			times[e]--
		}
		for e, n := range times {
			if n != 0 {
				t.Fatalf("%v comes out %d times too often", e, n)
			}
		}
	}
}

// P4.4

// turns tells all orders of a list.
func turns(l []api.Entry, at int, tell func([]api.Entry)) {
	if at == len(l) {
		tell(l)
	}
	for i := at; i < len(l); i++ {
		l[at], l[i] = l[i], l[at]
		turns(l, at+1, tell)
		l[at], l[i] = l[i], l[at]
	}
}

func TestOrderOfPuttingInDoesNotMatter(t *testing.T) {
	for _, want := range [][]api.Entry{
		{en(0, 9, 9), en(1, 0, 9), en(1, 1, 0), en(1, 1, 1), en(2, 0, 0), en(2, 0, 1), en(3, 0, -1)},
		{en(1, 1, 1), en(1, 1, 1), en(1, 1, 2), en(1, 2, 0), en(1, 2, 0), en(1, 2, 0), en(7, 0, 0)},
	} {
		turns(slices.Clone(want), 0, func(l []api.Entry) {
			wantEntries(t, "put in in another order", filled(l).Drain(len(l)), want)
			wantEntries(t, "handed in in another order", queue.Sort(l), want)
		})
	}
}
