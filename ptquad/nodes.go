package ptquad

import (
	"slices"

	"paravent/api"
	"paravent/cell"
	"paravent/geom"
)

// number is which child of its parent a cell is.
func number(c api.Cell) int {
	return c.X%2 + c.Y%2*2
}

// spot is the cell that a point is.
func spot(p api.Point) api.Cell {
	c, _ := cell.Of(p, api.MaxLevel)
	return c
}

// path are the places of the nodes that have a cell, the grid's first, down to a leaf or to the cell's own node.
func (t *Tree) path(c api.Cell) []int {
	place := top
	places := []int{place}
	for level := range c.Level {
		if t.nodes[place].isLeaf() {
			break
		}
		under, _ := cell.Above(c, level+1)
		place = t.nodes[place].children[number(under)]
		places = append(places, place)
	}
	return places
}

// put lets a record in.
func (t *Tree) put(r api.Record) {
	t.held[r.ID] = r
	path := t.path(spot(r.At))
	for _, place := range path {
		t.nodes[place].count++
	}
	leaf := path[len(path)-1]
	t.nodes[leaf].ids = append(t.nodes[leaf].ids, r.ID)
	t.split(leaf)
}

// split gives a leaf that holds more than a bucket its children, and these theirs.
func (t *Tree) split(leaf int) {
	n := t.nodes[leaf]
	if n.count <= t.bucket || n.cell.Level == api.MaxLevel {
		return
	}
	for i := range n.children {
		c, _ := cell.Child(n.cell, i)
		n.children[i] = t.settle(node{cell: c})
	}
	for _, id := range n.ids {
		c, _ := cell.Of(t.held[id].At, n.cell.Level+1)
		child := &t.nodes[n.children[number(c)]]
		child.ids = append(child.ids, id)
		child.count++
	}
	n.ids = nil
	t.nodes[leaf] = n
	for _, child := range n.children {
		t.split(child)
	}
}

// settle gives a node a place, a free one if there is one.
func (t *Tree) settle(n node) int {
	last := len(t.free) - 1
	if last < 0 {
		t.nodes = append(t.nodes, n)
		return len(t.nodes) - 1
	}
	place := t.free[last]
	t.free = t.free[:last]
	t.nodes[place] = n
	return place
}

// take lets a record go.
func (t *Tree) take(r api.Record) {
	delete(t.held, r.ID)
	path := t.path(spot(r.At))
	for _, place := range path {
		t.nodes[place].count--
	}
	t.nodes[path[len(path)-1]].drop(r.ID)
	for _, place := range path {
		// Above the first node that a bucket holds again, all need their children.
		if t.nodes[place].count <= t.bucket {
			t.fold(place)
			break
		}
	}
}

// drop takes an ID from those of a leaf. They need no order, so the last one may fill the gap.
func (n *node) drop(id int) {
	last := len(n.ids) - 1
	n.ids[slices.Index(n.ids, id)] = n.ids[last]
	n.ids = n.ids[:last]
}

// fold makes a node a leaf: what is below it gives its records up, and its place.
func (t *Tree) fold(place int) {
	n := t.nodes[place]
	if n.isLeaf() {
		return
	}
	for _, child := range n.children {
		t.fold(child)
		n.ids = append(n.ids, t.nodes[child].ids...)
		t.nodes[child] = node{}
		t.free = append(t.free, child)
	}
	n.children = [fanout]int{}
	t.nodes[place] = n
}

// tell tells those records below a node that a rectangle has.
func (t *Tree) tell(place int, r api.Rect, to func(api.Record)) {
	n := t.nodes[place]
	box, _ := cell.Box(n.cell)
	if n.count == 0 || !geom.Meets(box, r) {
		return
	}
	for _, id := range n.ids {
		if record := t.held[id]; geom.Has(r, record.At) {
			to(record)
		}
	}
	if n.isLeaf() {
		return
	}
	for _, child := range n.children {
		t.tell(child, r, to)
	}
}

// countIn is how many of the records below a node a rectangle has.
func (t *Tree) countIn(place int, r api.Rect) int {
	n := t.nodes[place]
	box, _ := cell.Box(n.cell)
	if geom.In(box, r) {
		return n.count
	}
	count := 0
	if n.isLeaf() {
		t.tell(place, r, func(api.Record) {
			count++
		})
		return count
	}
	if !geom.Meets(box, r) {
		return 0
	}
	for _, child := range n.children {
		count += t.countIn(child, r)
	}
	return count
}
