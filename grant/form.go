package grant

import (
	"math/bits"
	"slices"

	"paravent/api"
)

// run are points of a row that follow one another and have one zoom above 0.
type run struct{ from, to, zoom int }

// band are rows that follow one another and have the same runs.
type band struct {
	from, to int
	runs     []run
}

// edge is where, in some rows, a box of a rule begins, or is over.
type edge struct {
	x        int
	from, to int // the rows
	kind     int // the rule's
	zoom     int
	step     int // how many more such boxes there are from x on
}

// compare tells which of two edges comes first. Those at one x may stand in any order, for there are no points between them.
func (e edge) compare(f edge) int {
	return e.x - f.x
}

// pile counts boxes that lie upon one another by their zooms.
type pile struct {
	boxes [api.MaxLevel + 1]int
	zooms uint // the sum of 2^n for each zoom n that a box has
}

// add counts so many more boxes of a zoom.
func (p *pile) add(zoom, n int) {
	p.boxes[zoom] += n
	if p.boxes[zoom] > 0 {
		p.zooms |= 1 << zoom
	} else {
		p.zooms &^= 1 << zoom
	}
}

// greatest is the greatest zoom, or less than any, if there is none.
func (p *pile) greatest() int {
	return bits.Len(p.zooms) - 1
}

// least is the least zoom, or more than any, if there is none.
func (p *pile) least() int {
	return bits.TrailingZeros(p.zooms)
}

// patches are those of rules which allow or cap, and are all for the same.
func patches(l []api.Rule) []api.Patch {
	var all []api.Patch
	tellBands(edgesOf(l), func(b band) {
		for _, r := range b.runs {
			all = append(all, api.Patch{Box: api.Rect{X0: r.from, Y0: b.from, X1: r.to, Y1: b.to}, Zoom: r.zoom})
		}
	})
	return all
}

// edgesOf are both edges of each of the rules' boxes, by their x.
func edgesOf(l []api.Rule) []edge {
	var edges []edge
	for _, r := range l {
		for _, b := range r.Boxes {
			e := edge{x: b.X0, from: b.Y0, to: b.Y1, kind: r.Kind, zoom: r.Zoom, step: 1}
			over := e
			over.x, over.step = b.X1+1, -1
			edges = append(edges, e, over)
		}
	}
	slices.SortFunc(edges, edge.compare)
	return edges
}

// tellBands tells the bands to a function, the first one first. Rows without runs between others are told as one too: they have no patches.
func tellBands(edges []edge, tell func(band)) {
	var open band
	for _, row := range turns(edges) {
		runs := runsOf(edges, row)
		if slices.Equal(runs, open.runs) {
			continue
		}
		open.to = row - 1
		tell(open)
		open = band{from: row, runs: runs}
	}
}

// turns are the rows whose runs may be others than those of the row ahead, the one behind all boxes too: as it has no runs, the last band is told there.
func turns(edges []edge) []int {
	var rows []int
	for _, e := range edges {
		rows = append(rows, e.from, e.to+1)
	}
	slices.Sort(rows)
	return slices.Compact(rows)
}

// runsOf are the runs of a row.
func runsOf(edges []edge, row int) []run {
	var l []run
	var allowed, capped pile
	x := 0
	for _, e := range edges {
		if row < e.from || row > e.to {
			continue
		}
		if zoom := min(allowed.greatest(), capped.least()); x < e.x && zoom > 0 {
			l = follow(l, run{from: x, to: e.x - 1, zoom: zoom})
		}
		x = e.x
		if e.kind == api.DAllow {
			allowed.add(e.zoom, e.step)
		} else {
			capped.add(e.zoom, e.step)
		}
	}
	return l
}

// follow puts a run behind others, or lengthens the last one, if that has the same zoom and ends right ahead of it.
func follow(l []run, r run) []run {
	if n := len(l); n > 0 && l[n-1].to == r.from-1 && l[n-1].zoom == r.zoom {
		l[n-1].to = r.to
		return l
	}
	return append(l, r)
}
