package region

import (
	"slices"

	"paravent/api"
)

// run are points of a row that follow one another.
type run struct{ from, to int }

// strip are rows that have the same runs, for no rectangle begins or is over between them.
type strip struct {
	from, to int
	runs     []run
}

// end is where, in some rows, a rectangle of one of two regions begins, or is over.
type end struct {
	x        int
	from, to int // the rows
	region   int
	step     int // how many more rectangles of the region there are from x on
}

// compare tells which of two ends comes first. Those at one x may stand in any order, for what is between them has no points.
func (e end) compare(f end) int {
	return e.x - f.x
}

// form are the rectangles of strips, which follow one another: those of them that have the same runs are one band.
func form(strips []strip) []api.Rect {
	var l []api.Rect
bands:
	for len(strips) > 0 {
		band := strips[0]
		for i, s := range strips {
			if !slices.Equal(s.runs, band.runs) {
				l = append(l, band.rects()...)
				strips = strips[i:]
				continue bands
			}
			band.to = s.to
		}
		return append(l, band.rects()...)
	}
	return l
}

// rects are the rectangles of a strip, one for each run.
func (s strip) rects() []api.Rect {
	var l []api.Rect
	for _, r := range s.runs {
		l = append(l, api.Rect{X0: r.from, Y0: s.from, X1: r.to, Y1: s.to})
	}
	return l
}

// stripsOf are the strips of two regions, of those points that count, also such without any between others.
func stripsOf(a, b []api.Rect, counts func(inA, inB bool) bool) []strip {
	ends := slices.Concat(endsOf(a, 0), endsOf(b, 1))
	slices.SortFunc(ends, end.compare)
	rows := firstRows(ends)
	var l []strip
	for i := 1; i < len(rows); i++ {
		l = append(l, strip{from: rows[i-1], to: rows[i] - 1, runs: runsOf(ends, rows[i-1], counts)})
	}
	return l
}

// endsOf are both ends of each of a region's rectangles.
func endsOf(l []api.Rect, region int) []end {
	var ends []end
	for _, r := range l {
		ends = append(ends,
			end{x: r.X0, from: r.Y0, to: r.Y1, region: region, step: 1},
			end{x: r.X1 + 1, from: r.Y0, to: r.Y1, region: region, step: -1})
	}
	return ends
}

// firstRows are the rows with which strips begin, and the one behind the last strip.
func firstRows(ends []end) []int {
	var rows []int
	for _, e := range ends {
		rows = append(rows, e.from, e.to+1)
	}
	slices.Sort(rows)
	return slices.Compact(rows)
}

// runsOf are the runs of a row: of those points that count, as they are in the first region and in the second one.
func runsOf(ends []end, row int, counts func(inA, inB bool) bool) []run {
	var l []run
	var within [2]int
	x := 0
	for _, e := range ends {
		if row < e.from || row > e.to {
			continue
		}
		if x < e.x && counts(within[0] > 0, within[1] > 0) {
			l = follow(l, run{from: x, to: e.x - 1})
		}
		x = e.x
		within[e.region] += e.step
	}
	return l
}

// follow puts a run behind others, or lengthens the last one, if that ends right ahead of it.
func follow(l []run, r run) []run {
	if n := len(l); n > 0 && l[n-1].to == r.from-1 {
		l[n-1].to = r.to
		return l
	}
	return append(l, r)
}
