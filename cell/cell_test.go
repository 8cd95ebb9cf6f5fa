package cell_test

import (
	"math"
	"math/rand"
	"strconv"
	"strings"
	"testing"

	"paravent/api"
	"paravent/cell"
)

const last = api.Side - 1

func pt(x, y int) api.Point { return api.Point{X: x, Y: y} }

func rc(x0, y0, x1, y1 int) api.Rect { return api.Rect{X0: x0, Y0: y0, X1: x1, Y1: y1} }

func cl(level, x, y int) api.Cell { return api.Cell{Level: level, X: x, Y: y} }

// sideOf and boxOf are the document's words, for cells that may be.
func sideOf(level int) int {
	side := api.Side
	for range level {
		side /= 2
	}
	return side
}

func boxOf(c api.Cell) api.Rect {
	side := sideOf(c.Level)
	return rc(c.X*side, c.Y*side, c.X*side+side-1, c.Y*side+side-1)
}

func within(a, b api.Rect) bool {
	return a.X0 >= b.X0 && a.X1 <= b.X1 && a.Y0 >= b.Y0 && a.Y1 <= b.Y1
}

func meets(a, b api.Rect) bool {
	return a.X0 <= b.X1 && b.X0 <= a.X1 && a.Y0 <= b.Y1 && b.Y0 <= a.Y1
}

func area(r api.Rect) int { return (r.X1 - r.X0 + 1) * (r.Y1 - r.Y0 + 1) }

func badNumbers() []int {
	return []int{-1, -2, -64, math.MinInt, math.MinInt + 1, math.MaxInt, math.MaxInt - 1, math.MinInt32, 1 << 32}
}

func badLevels() []int { return append(badNumbers(), 17, 18, 31, 32, 63, 64, 65, 256, api.Side) }

func badPoints() []api.Point {
	l := []api.Point{pt(api.Side, 0), pt(0, api.Side), pt(api.Side, api.Side), pt(last, api.Side)}
	for _, n := range badNumbers() {
		l = append(l, pt(n, 5), pt(5, n), pt(n, n))
	}
	return l
}

func badRects() []api.Rect {
	l := []api.Rect{
		rc(1, 0, 0, 0), rc(0, 1, 0, 0), rc(4, 4, 3, 5), rc(4, 4, 5, 3), rc(last, last, 0, 0),
		rc(0, 0, api.Side, 5), rc(0, 0, 5, api.Side), rc(-1, -1, api.Side, api.Side),
	}
	for _, n := range badNumbers() {
		l = append(l, rc(n, 0, 5, 5), rc(0, n, 5, 5), rc(5, 5, n, 9), rc(5, 5, 9, n), rc(n, n, n, n))
	}
	return l
}

func badCells() []api.Cell {
	l := []api.Cell{cl(0, 1, 0), cl(0, 0, 1), cl(17, 0, 0), cl(17, 1<<17-1, 1<<17-1), cl(1, 2, 2)}
	for _, n := range badLevels() {
		l = append(l, cl(n, 0, 0), cl(n, 1, 1), cl(n, n, n))
	}
	for level := range 17 {
		row := 1 << level
		l = append(l, cl(level, row, 0), cl(level, 0, row), cl(level, row, row), cl(level, row+1, row-1))
		for _, n := range badNumbers() {
			l = append(l, cl(level, n, 0), cl(level, 0, n), cl(level, n, n))
		}
	}
	return l
}

// goodCells are all cells of the first levels, and of each level those at its corners and some others.
func goodCells() []api.Cell {
	var l []api.Cell
	r := rand.New(rand.NewSource(1))
	for level := range 17 {
		row := 1 << level
		if level <= 3 {
			for i := range row * row {
				l = append(l, cl(level, i%row, i/row))
			}
			continue
		}
		l = append(l, cl(level, 0, 0), cl(level, row-1, 0), cl(level, 0, row-1), cl(level, row-1, row-1))
		l = append(l, cl(level, row/2, row/2-1), cl(level, row/2-1, row/2))
		for range 40 {
			l = append(l, cl(level, r.Intn(row), r.Intn(row)))
		}
	}
	return l
}

func goodPoints() []api.Point {
	l := []api.Point{pt(0, 0), pt(last, 0), pt(0, last), pt(last, last), pt(5, 9), pt(32767, 32768), pt(32768, 32767)}
	r := rand.New(rand.NewSource(2))
	for range 200 {
		l = append(l, pt(r.Intn(api.Side), r.Intn(api.Side)))
	}
	return l
}

// goodRects are points, great rectangles, and small ones at the edges of cells and elsewhere.
func goodRects() []api.Rect {
	l := []api.Rect{
		rc(0, 0, last, last), rc(0, 0, 0, 0), rc(last, last, last, last), rc(5, 9, 6, 9), rc(5, 9, 5, 9),
		rc(0, 0, 32767, 32767), rc(0, 0, 32768, 0), rc(0, 0, 0, 32768), rc(32767, 0, 32768, 0), rc(0, 32767, 0, 32768),
		rc(32768, 32768, last, last), rc(32767, 5, 32767, 6), rc(0, 5, last, 5), rc(5, 0, 5, last),
		rc(4, 8, 5, 9), rc(4, 8, 6, 9), rc(4, 8, 5, 10), rc(3, 8, 5, 9), rc(4, 7, 5, 9),
	}
	r := rand.New(rand.NewSource(3))
	for range 300 {
		x, y := r.Intn(api.Side), r.Intn(api.Side)
		w, h := r.Intn(1<<r.Intn(17)), r.Intn(1<<r.Intn(17))
		l = append(l, rc(x, y, min(x+w, last), min(y+h, last)))
	}
	return l
}

func wantCell(t *testing.T, what string, got api.Cell, ok bool, want api.Cell) {
	t.Helper()
	if got != want || !ok {
		t.Fatalf("%s is %v, %v, want %v", what, got, ok, want)
	}
}

func wantNoCell(t *testing.T, what string, got api.Cell, ok bool) {
	t.Helper()
	if got != (api.Cell{}) || ok {
		t.Fatalf("%s is %v, %v, want none", what, got, ok)
	}
}

// named is how a call is told in a test's message.
func named(call string, l ...int) string {
	for _, n := range l {
		call += " " + strconv.Itoa(n)
	}
	return call
}

func nameOf(call string, c api.Cell, l ...int) string {
	return named(call, append([]int{c.Level, c.X, c.Y}, l...)...)
}

// P3.1

func TestRight(t *testing.T) {
	for _, c := range goodCells() {
		if !cell.Right(c) {
			t.Errorf("Right(%v) is false", c)
		}
	}
	for _, c := range badCells() {
		if cell.Right(c) {
			t.Errorf("Right(%v) is true", c)
		}
	}
}

func TestOf(t *testing.T) {
	c, ok := cell.Of(pt(5, 9), 15)
	wantCell(t, "the cell of 5 9", c, ok, cl(15, 2, 4))
	for _, p := range goodPoints() {
		for level := range 17 {
			side := sideOf(level)
			c, ok := cell.Of(p, level)
			wantCell(t, named("Of", p.X, p.Y, level), c, ok, cl(level, p.X/side, p.Y/side))
		}
	}
}

func TestOfRefuses(t *testing.T) {
	for _, level := range badLevels() {
		for _, p := range append(goodPoints(), badPoints()...) {
			c, ok := cell.Of(p, level)
			wantNoCell(t, named("Of", p.X, p.Y, level), c, ok)
		}
	}
	for _, p := range badPoints() {
		for level := range 17 {
			c, ok := cell.Of(p, level)
			wantNoCell(t, named("Of", p.X, p.Y, level), c, ok)
		}
	}
}

func TestBox(t *testing.T) {
	for _, c := range []struct {
		c    api.Cell
		want api.Rect
	}{
		{cl(0, 0, 0), rc(0, 0, last, last)},
		{cl(15, 2, 4), rc(4, 8, 5, 9)},
		{cl(16, 5, 9), rc(5, 9, 5, 9)},
		{cl(1, 1, 0), rc(32768, 0, last, 32767)},
		{cl(1, 0, 1), rc(0, 32768, 32767, last)},
		{cl(16, last, last), rc(last, last, last, last)},
	} {
		if got, ok := cell.Box(c.c); got != c.want || !ok {
			t.Errorf("Box(%v) = %v, %v, want %v", c.c, got, ok, c.want)
		}
	}
	for _, c := range goodCells() {
		if got, ok := cell.Box(c); got != boxOf(c) || !ok {
			t.Errorf("Box(%v) = %v, %v, want %v", c, got, ok, boxOf(c))
		}
	}
}

// What may not be (all promises, and P1: none of these calls panics).

func TestWrongCells(t *testing.T) {
	for _, bad := range badCells() {
		for what, ask := range map[string]func(api.Cell) (api.Cell, bool){
			"Parent": cell.Parent, "Beside": cell.Beside, "Over": cell.Over,
		} {
			c, ok := ask(bad)
			wantNoCell(t, nameOf(what, bad), c, ok)
		}
		if r, ok := cell.Box(bad); r != (api.Rect{}) || ok {
			t.Errorf("Box(%v) = %v, %v", bad, r, ok)
		}
		if n, ok := cell.Code(bad); n != 0 || ok {
			t.Errorf("Code(%v) = %d, %v", bad, n, ok)
		}
		for _, i := range append(badNumbers(), 0, 1, 2, 3, 4) {
			c, ok := cell.Child(bad, i)
			wantNoCell(t, nameOf("Child", bad, i), c, ok)
		}
		for _, level := range append(badLevels(), 0, 1, 8, 15, 16, bad.Level) {
			c, ok := cell.Above(bad, level)
			wantNoCell(t, nameOf("Above", bad, level), c, ok)
		}
	}
}

// P3.2

func TestParent(t *testing.T) {
	c, ok := cell.Parent(cl(15, 2, 5))
	wantCell(t, "the parent of 15 2 5", c, ok, cl(14, 1, 2))
	c, ok = cell.Parent(cl(0, 0, 0))
	wantNoCell(t, "the parent of the level 0", c, ok)
	for _, c := range goodCells() {
		if c.Level == 0 {
			continue
		}
		p, ok := cell.Parent(c)
		if !ok || p.Level != c.Level-1 || !cell.Right(p) || !within(boxOf(c), boxOf(p)) {
			t.Errorf("Parent(%v) = %v, %v", c, p, ok)
		}
	}
}

func TestChild(t *testing.T) {
	for i, want := range []api.Cell{cl(16, 4, 8), cl(16, 5, 8), cl(16, 4, 9), cl(16, 5, 9)} {
		c, ok := cell.Child(cl(15, 2, 4), i)
		wantCell(t, named("a child of 15 2 4:", i), c, ok, want)
	}
	for _, c := range goodCells() {
		for i := range 4 {
			got, ok := cell.Child(c, i)
			if c.Level == 16 {
				wantNoCell(t, nameOf("Child", c, i), got, ok)
				continue
			}
			wantCell(t, nameOf("Child", c, i), got, ok, cl(c.Level+1, 2*c.X+i%2, 2*c.Y+i/2))
			p, ok := cell.Parent(got)
			wantCell(t, nameOf("the parent of a child of", c, i), p, ok, c)
		}
		for _, i := range append(badNumbers(), 4, 5, 8) {
			got, ok := cell.Child(c, i)
			wantNoCell(t, nameOf("Child", c, i), got, ok)
		}
	}
}

func TestBesideAndOver(t *testing.T) {
	c, ok := cell.Beside(cl(15, 2, 4))
	wantCell(t, "beside 15 2 4", c, ok, cl(15, 3, 4))
	c, ok = cell.Over(cl(15, 2, 4))
	wantCell(t, "over 15 2 4", c, ok, cl(15, 2, 5))
	for _, c := range goodCells() {
		if c.Level == 0 {
			b, ok := cell.Beside(c)
			wantNoCell(t, nameOf("Beside", c), b, ok)
			o, ok := cell.Over(c)
			wantNoCell(t, nameOf("Over", c), o, ok)
			continue
		}
		// Of the parent's four children one is beside, one over, one neither.
		for i := range 4 {
			p := cl(c.Level-1, c.X/2, c.Y/2)
			other := cl(c.Level, 2*p.X+i%2, 2*p.Y+i/2)
			if other.X != c.X && other.Y == c.Y {
				b, ok := cell.Beside(c)
				wantCell(t, nameOf("Beside", c), b, ok, other)
			}
			if other.X == c.X && other.Y != c.Y {
				o, ok := cell.Over(c)
				wantCell(t, nameOf("Over", c), o, ok, other)
			}
		}
	}
}

func TestAbove(t *testing.T) {
	c, ok := cell.Above(cl(16, 5, 9), 15)
	wantCell(t, "above 16 5 9", c, ok, cl(15, 2, 4))
	for _, c := range goodCells() {
		want := c
		for level := c.Level; level >= 0; level-- {
			got, ok := cell.Above(c, level)
			wantCell(t, nameOf("Above", c, level), got, ok, want)
			want = cl(level-1, want.X/2, want.Y/2)
		}
		for level := c.Level + 1; level <= 17; level++ {
			got, ok := cell.Above(c, level)
			wantNoCell(t, nameOf("Above", c, level), got, ok)
		}
		for _, level := range badLevels() {
			got, ok := cell.Above(c, level)
			wantNoCell(t, nameOf("Above", c, level), got, ok)
		}
	}
}

// P3.3

func TestSnap(t *testing.T) {
	for _, c := range []struct {
		r     api.Rect
		level int
		want  api.Rect
	}{
		{rc(5, 9, 6, 9), 15, rc(4, 8, 7, 9)},
		{rc(5, 9, 6, 9), 16, rc(5, 9, 6, 9)},
		{rc(5, 9, 6, 9), 14, rc(4, 8, 7, 11)},
		{rc(5, 9, 6, 9), 0, rc(0, 0, last, last)},
		{rc(4, 8, 7, 9), 15, rc(4, 8, 7, 9)},
		{rc(3, 8, 8, 10), 15, rc(2, 8, 9, 11)},
		{rc(32767, 0, 32768, 0), 1, rc(0, 0, last, 32767)},
		{rc(last, last, last, last), 12, rc(65520, 65520, last, last)},
	} {
		if got, ok := cell.Snap(c.r, c.level); got != c.want || !ok {
			t.Errorf("Snap(%v, %d) = %v, %v, want %v", c.r, c.level, got, ok, c.want)
		}
	}
	for _, r := range goodRects() {
		for level := range 17 {
			checkSnap(t, r, level)
		}
	}
}

// checkSnap tells of a snapped rectangle that it has the first one, is of whole cells, and that no side can be spared.
func checkSnap(t *testing.T, r api.Rect, level int) {
	t.Helper()
	side := sideOf(level)
	s, ok := cell.Snap(r, level)
	if !ok || !within(r, s) || s.X0%side != 0 || s.Y0%side != 0 || (s.X1+1)%side != 0 || (s.Y1+1)%side != 0 {
		t.Fatalf("Snap(%v, %d) = %v, %v", r, level, s, ok)
	}
	for _, less := range []api.Rect{
		rc(s.X0+side, s.Y0, s.X1, s.Y1), rc(s.X0, s.Y0+side, s.X1, s.Y1),
		rc(s.X0, s.Y0, s.X1-side, s.Y1), rc(s.X0, s.Y0, s.X1, s.Y1-side),
	} {
		if within(r, less) {
			t.Fatalf("Snap(%v, %d) = %v, but %v would do", r, level, s, less)
		}
	}
}

func TestHome(t *testing.T) {
	for _, c := range []struct {
		r    api.Rect
		want api.Cell
	}{
		{rc(5, 9, 6, 9), cl(14, 1, 2)},
		{rc(5, 9, 5, 9), cl(16, 5, 9)},
		{rc(4, 8, 5, 9), cl(15, 2, 4)},
		{rc(0, 0, 1, 1), cl(15, 0, 0)},
		{rc(1, 1, 2, 2), cl(14, 0, 0)},
		{rc(0, 0, last, last), cl(0, 0, 0)},
		{rc(32767, 7, 32768, 7), cl(0, 0, 0)},
		{rc(7, 32767, 7, 32768), cl(0, 0, 0)},
		{rc(0, 32768, 32767, last), cl(1, 0, 1)},
		{rc(last, last, last, last), cl(16, last, last)},
	} {
		got, ok := cell.Home(c.r)
		wantCell(t, named("Home", c.r.X0, c.r.Y0, c.r.X1, c.r.Y1), got, ok, c.want)
	}
	for _, r := range goodRects() {
		// The greatest level at which the cell of a corner has the rectangle, as the document words it.
		want, level := cl(0, 0, 0), 16
		for ; ; level-- {
			side := sideOf(level)
			if want = cl(level, r.X0/side, r.Y0/side); within(r, boxOf(want)) {
				break
			}
		}
		got, ok := cell.Home(r)
		wantCell(t, named("Home", r.X0, r.Y0, r.X1, r.Y1), got, ok, want)
	}
	for _, c := range goodCells() {
		got, ok := cell.Home(boxOf(c))
		wantCell(t, nameOf("the home of the box of", c), got, ok, c)
	}
}

func TestSnapAndHomeRefuse(t *testing.T) {
	for _, r := range badRects() {
		for level := range 17 {
			if s, ok := cell.Snap(r, level); s != (api.Rect{}) || ok {
				t.Errorf("Snap(%v, %d) = %v, %v", r, level, s, ok)
			}
		}
		c, ok := cell.Home(r)
		wantNoCell(t, named("Home", r.X0, r.Y0, r.X1, r.Y1), c, ok)
	}
	for _, level := range badLevels() {
		for _, r := range append(goodRects(), badRects()...) {
			if s, ok := cell.Snap(r, level); s != (api.Rect{}) || ok {
				t.Errorf("Snap(%v, %d) = %v, %v", r, level, s, ok)
			}
		}
	}
}

// P3.4

// digits is a number in binary, with so many digits.
func digits(n, wide int) string {
	if wide == 0 {
		return ""
	}
	s := strconv.FormatInt(int64(n), 2)
	return strings.Repeat("0", wide-len(s)) + s
}

// codeOf is the code in the document's words: the digits in turns, Y's ahead of X's.
func codeOf(c api.Cell) uint64 {
	x, y, both := digits(c.X, c.Level), digits(c.Y, c.Level), "0"
	for i := range c.Level {
		both += y[i:i+1] + x[i:i+1]
	}
	n, _ := strconv.ParseUint(both, 2, 64)
	return n
}

func TestCode(t *testing.T) {
	for _, c := range []struct {
		c    api.Cell
		want uint64
	}{
		{cl(0, 0, 0), 0},
		{cl(1, 0, 0), 0},
		{cl(1, 1, 0), 1},
		{cl(1, 0, 1), 2},
		{cl(1, 1, 1), 3},
		{cl(15, 2, 4), 36},
		{cl(16, last, last), 1<<32 - 1},
		{cl(16, 0, last), 0xaaaaaaaa},
		{cl(16, last, 0), 0x55555555},
		{cl(16, 0, 32768), 1 << 31},
	} {
		if got, ok := cell.Code(c.c); got != c.want || !ok {
			t.Errorf("Code(%v) = %d, %v, want %d", c.c, got, ok, c.want)
		}
	}
	for _, c := range goodCells() {
		if got, ok := cell.Code(c); got != codeOf(c) || !ok {
			t.Errorf("Code(%v) = %d, %v, want %d", c, got, ok, codeOf(c))
		}
		back, ok := cell.FromCode(c.Level, codeOf(c))
		wantCell(t, nameOf("the cell of the code of", c), back, ok, c)
	}
}

func TestFromCodeOfAllCodes(t *testing.T) {
	for level := range 6 {
		for code := range uint64(1) << (2 * level) {
			c, ok := cell.FromCode(level, code)
			if !ok || c.Level != level || !cell.Right(c) || codeOf(c) != code {
				t.Fatalf("FromCode(%d, %d) = %v, %v", level, code, c, ok)
			}
		}
	}
}

func TestFromCodeRefuses(t *testing.T) {
	for level := range 17 {
		most := uint64(1) << (2 * level)
		for _, code := range []uint64{most, most + 1, most << 1, most<<2 | 3, 1 << 33, 1 << 63, math.MaxUint64} {
			c, ok := cell.FromCode(level, code)
			wantNoCell(t, named("FromCode", level, int(code)), c, ok)
		}
	}
	for _, level := range badLevels() {
		for _, code := range []uint64{0, 1, 36, 1<<32 - 1, math.MaxUint64} {
			c, ok := cell.FromCode(level, code)
			wantNoCell(t, named("FromCode", level, int(code)), c, ok)
		}
	}
}

// P3.5

func TestChildrenPartTheBox(t *testing.T) {
	for _, c := range goodCells() {
		if c.Level == 16 {
			continue
		}
		box, _ := cell.Box(c)
		var parts []api.Rect
		left := area(box)
		for i := range 4 {
			child, _ := cell.Child(c, i)
			part, ok := cell.Box(child)
			if !ok || !within(part, box) {
				t.Fatalf("the child %d of %v has the box %v, %v", i, c, part, ok)
			}
			for _, other := range parts {
				if meets(part, other) {
					t.Fatalf("children of %v have %v and %v", c, part, other)
				}
			}
			parts = append(parts, part)
			left -= area(part)
		}
		if left != 0 {
			t.Fatalf("the children of %v leave %d points", c, left)
		}
	}
}

// P3.6

func TestSnappedHasTheCellsThatMeet(t *testing.T) {
	for _, r := range goodRects() {
		for level := range 17 {
			s, _ := cell.Snap(r, level)
			for _, c := range near(r, level) {
				box, _ := cell.Box(c)
				if meets(box, r) != within(box, s) || meets(box, r) != meets(box, s) {
					t.Fatalf("%v, snapped to %d, is %v: wrong at the cell %v", r, level, s, c)
				}
			}
		}
	}
}

// near are the cells of a level around a rectangle's corners.
func near(r api.Rect, level int) []api.Cell {
	var l []api.Cell
	side, row := sideOf(level), 1<<level
	for _, p := range []api.Point{pt(r.X0, r.Y0), pt(r.X1, r.Y0), pt(r.X0, r.Y1), pt(r.X1, r.Y1)} {
		for i := range 9 {
			x, y := p.X/side+i%3-1, p.Y/side+i/3-1
			if x >= 0 && y >= 0 && x < row && y < row {
				l = append(l, cl(level, x, y))
			}
		}
	}
	return l
}

func TestSnappedAgain(t *testing.T) {
	for _, r := range goodRects() {
		for level := range 17 {
			s, _ := cell.Snap(r, level)
			for lower := range level + 1 {
				at, ok := cell.Snap(r, lower)
				if again, ok2 := cell.Snap(s, lower); again != at || !ok || !ok2 {
					t.Fatalf("%v snapped to %d and %d is %v, to %d at once %v", r, level, lower, again, lower, at)
				}
			}
		}
	}
}

// P3.7

func TestNoChildOfAHomeHasTheRectangle(t *testing.T) {
	for _, r := range goodRects() {
		home, ok := cell.Home(r)
		box, _ := cell.Box(home)
		if !ok || !within(r, box) {
			t.Fatalf("the home of %v is %v with %v", r, home, box)
		}
		for i := range 4 {
			if child, ok := cell.Child(home, i); ok && within(r, boxOf(child)) {
				t.Fatalf("the home of %v is %v, but its child %v has it", r, home, child)
			}
		}
	}
}

// P3.8

func TestCodeOfAChild(t *testing.T) {
	for _, c := range goodCells() {
		code, _ := cell.Code(c)
		for i := range 4 {
			child, ok := cell.Child(c, i)
			if got, ok2 := cell.Code(child); ok && (!ok2 || got != 4*code+uint64(i)) {
				t.Fatalf("the child %d of %v has the code %d, the cell %d", i, c, got, code)
			}
		}
	}
}
