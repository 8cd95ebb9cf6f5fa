package cifquad

import (
	"paravent/api"
	"paravent/cell"
	"paravent/geom"
	"paravent/queue"
)

// What is ahead of a search are entries: of a node the Item is its cell's level, the Tie its cell's code; of a shape the
// Item is its ID, the Tie asShape. That is beyond all codes: of what is as near, nodes are opened ahead of shapes that
// are told, for they may have a shape with a lesser ID.
const asShape = 1 << (2 * api.MaxLevel)

// search goes from what is nearest to a point to what is next.
type search struct {
	tree    *Tree
	from    api.Point
	level   int
	keep    func(api.Shape) bool
	ahead   *queue.Queue
	reached map[int]struct{}
}

// Nearest are the shapes that are nearest to a point.
func (t *Tree) Nearest(p api.Point, n, level int, keep func(api.Shape) bool) []api.Shape {
	if t == nil || !geom.Fits(p) || level < 0 || level > api.MaxLevel || n < 1 {
		return nil
	}
	s := search{tree: t, from: p, level: level, keep: keep, ahead: queue.New(), reached: map[int]struct{}{}}
	s.addNode(t.top.cell)
	return s.first(n)
}

// first are the n first shapes that are kept.
func (s *search) first(n int) []api.Shape {
	var l []api.Shape
	for len(l) < n {
		e, ok := s.ahead.Pop()
		if !ok {
			break
		}
		if e.Tie < asShape {
			c, _ := cell.FromCode(e.Item, e.Tie)
			s.open(c)
		} else if shape, ok := s.reach(e.Item); ok && s.kept(shape) {
			l = append(l, shape)
		}
	}
	return l
}

// reach is the shape of an ID, as it stands, the first time that it is reached. keep may change the tree meanwhile: a
// shape may be gone, or come ahead once more from elsewhere.
func (s *search) reach(id int) (api.Shape, bool) {
	if _, twice := s.reached[id]; twice {
		return api.Shape{}, false
	}
	s.reached[id] = struct{}{}
	return s.tree.Find(id)
}

// kept tells whether keep is true of a shape. It is not, where it panics.
func (s *search) kept(shape api.Shape) (ok bool) {
	if s.keep == nil {
		return true
	}
	defer func() {
		_ = recover()
	}()
	return s.keep(shape)
}

// open puts what is in a cell ahead. The search holds cells, not nodes: keep may change the tree meanwhile, and a node
// may be gone, or another one stand in its place.
func (s *search) open(c api.Cell) {
	n := s.tree.at(c)
	if n == nil {
		return
	}
	// What is in one cell of the search's level is equally near.
	if c.Level >= s.level {
		box, _ := cell.Box(c)
		s.tree.tell(n, box, s.addShape)
		return
	}
	for id := range n.ids {
		s.addShape(s.tree.held[id])
	}
	for _, child := range n.children {
		if child != nil {
			s.addNode(child.cell)
		}
	}
}

// addNode puts the node of a cell ahead. No box below it is nearer, nor is one that is snapped.
func (s *search) addNode(c api.Cell) {
	box, _ := cell.Box(c)
	code, _ := cell.Code(c)
	s.ahead.Push(api.Entry{Key: s.dist(box), Tie: code, Item: c.Level})
}

// addShape puts a shape ahead.
func (s *search) addShape(shape api.Shape) {
	s.ahead.Push(api.Entry{Key: s.dist(shape.Box), Tie: asShape, Item: shape.ID})
}

// dist is how far a box is, snapped to the search's level.
func (s *search) dist(box api.Rect) uint64 {
	seen, _ := cell.Snap(box, s.level)
	return geom.Dist(seen, s.from)
}
