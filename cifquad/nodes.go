package cifquad

import (
	"paravent/api"
	"paravent/cell"
	"paravent/geom"
)

// fanout is how many children a node has at most.
const fanout = 4

// node is a node of a tree: its children, as far as there are any; the IDs of the shapes whose home it is; and how many
// shapes have their home here or below. The zero node is the grid's.
type node struct {
	cell     api.Cell
	children [fanout]*node
	ids      map[int]struct{}
	count    int
}

// toward is which child has a cell that stands under the node's own.
func (n *node) toward(c api.Cell) int {
	child, _ := cell.Above(c, n.cell.Level+1)
	return child.X%2 + child.Y%2*2
}

// at is the node of a cell, nil if there is none.
func (t *Tree) at(c api.Cell) *node {
	n := &t.top
	for n != nil && n.cell != c {
		n = n.children[n.toward(c)]
	}
	return n
}

// put lets a shape in.
func (t *Tree) put(s api.Shape) {
	if t.held == nil {
		t.held = map[int]api.Shape{}
	}
	t.held[s.ID] = s
	home, _ := cell.Home(s.Box)
	n := &t.top
	n.count++
	for n.cell != home {
		n = t.child(n, n.toward(home))
		n.count++
	}
	if n.ids == nil {
		n.ids = map[int]struct{}{}
	}
	n.ids[s.ID] = struct{}{}
}

// child is a child of a node, made if it is not there.
func (t *Tree) child(n *node, i int) *node {
	if n.children[i] == nil {
		c, _ := cell.Child(n.cell, i)
		n.children[i] = &node{cell: c}
		t.below++
	}
	return n.children[i]
}

// take lets a shape go.
func (t *Tree) take(s api.Shape) {
	delete(t.held, s.ID)
	home, _ := cell.Home(s.Box)
	t.drop(&t.top, home, s.ID)
}

// drop takes an ID from its home, at or below a node, and on the way up the nodes that are left without anything.
func (t *Tree) drop(n *node, home api.Cell, id int) {
	n.count--
	if n.cell == home {
		delete(n.ids, id)
		return
	}
	i := n.toward(home)
	t.drop(n.children[i], home, id)
	if n.children[i].count == 0 {
		n.children[i] = nil
		t.below--
	}
}

// tell tells those shapes at or below a node whose home's box meets a rectangle. No other one's box meets it.
func (t *Tree) tell(n *node, r api.Rect, to func(api.Shape)) {
	box, _ := cell.Box(n.cell)
	if !geom.Meets(box, r) {
		return
	}
	for id := range n.ids {
		to(t.held[id])
	}
	for _, child := range n.children {
		if child != nil {
			t.tell(child, r, to)
		}
	}
}
