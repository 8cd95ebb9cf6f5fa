package ptquad

import (
	"paravent/api"
	"paravent/cell"
	"paravent/geom"
	"paravent/queue"
)

// What is ahead of a search are entries: of a node the Item is its cell's level, the Tie its cell's code; of a record
// the Item is its ID, the Tie asRecord. That is beyond all codes: of what is as near, nodes are opened ahead of records
// that are told, for they may have a record with a lesser ID.
const asRecord = 1 << (2 * api.MaxLevel)

// search goes from what is nearest to a point to what is next.
type search struct {
	tree  *Tree
	from  api.Point
	level int
	keep  func(api.Record) bool
	ahead *queue.Queue
}

// Nearest are the records that are nearest to a point.
func (t *Tree) Nearest(p api.Point, n, level int, keep func(api.Record) bool) []api.Record {
	if !t.isMade() || !geom.Fits(p) || level < 0 || level > api.MaxLevel || n < 1 {
		return nil
	}
	s := search{tree: t, from: p, level: level, keep: keep, ahead: queue.New()}
	s.addNode(t.nodes[top].cell)
	return s.first(n)
}

// first are the n first records that are kept.
func (s *search) first(n int) []api.Record {
	var l []api.Record
walk:
	for len(l) < n {
		e, ok := s.ahead.Pop()
		switch {
		case !ok:
			break walk
		case e.Tie < asRecord:
			c, _ := cell.FromCode(e.Item, e.Tie)
			s.open(c)
		default:
			if r, ok := s.tree.Find(e.Item); ok && s.kept(r) {
				l = append(l, r)
			}
		}
	}
	return l
}

// kept tells whether keep is true of a record. It is not, where it panics.
func (s *search) kept(r api.Record) (ok bool) {
	if s.keep == nil {
		return true
	}
	defer func() {
		_ = recover()
	}()
	return s.keep(r)
}

// open puts what is in a cell ahead. The search holds cells, not places, and asks for the way down anew: keep may
// change the tree meanwhile, and a node may be gone into the leaf above it.
func (s *search) open(c api.Cell) {
	path := s.tree.path(c)
	place := path[len(path)-1]
	n := s.tree.nodes[place]
	// What stands in one cell of the search's level is equally near.
	if n.isLeaf() || c.Level >= s.level {
		box, _ := cell.Box(c)
		s.tree.tell(place, box, s.addRecord)
		return
	}
	for _, child := range n.children {
		if below := s.tree.nodes[child]; below.count > 0 {
			s.addNode(below.cell)
		}
	}
}

// addNode puts the node of a cell ahead.
func (s *search) addNode(c api.Cell) {
	code, _ := cell.Code(c)
	s.ahead.Push(api.Entry{Key: s.dist(c), Tie: code, Item: c.Level})
}

// addRecord puts a record ahead.
func (s *search) addRecord(r api.Record) {
	s.ahead.Push(api.Entry{Key: s.dist(spot(r.At)), Tie: asRecord, Item: r.ID})
}

// dist is how far what stands in a cell is at least, seen at the search's level.
func (s *search) dist(c api.Cell) uint64 {
	seen, _ := cell.Above(c, min(c.Level, s.level))
	box, _ := cell.Box(seen)
	return geom.Dist(box, s.from)
}
