package cifquad

import (
	"math/rand"
	"testing"

	"paravent/api"
	"paravent/cell"
)

// lookAt counts the nodes and the shapes at and below a node, and tells of what should not be there.
func lookAt(t *testing.T, q *Tree, n *node) (nodes, shapes int) {
	nodes, shapes = 1, len(n.ids)
	for id := range n.ids {
		if home, _ := cell.Home(q.held[id].Box); home != n.cell {
			t.Errorf("%v, whose home is %v, stands in %v", q.held[id], home, n.cell)
		}
	}
	for i, child := range n.children {
		if child == nil {
			continue
		}
		if c, ok := cell.Child(n.cell, i); child.cell != c || !ok {
			t.Errorf("the child %d of %v is %v", i, n.cell, child.cell)
		}
		if child.count == 0 {
			t.Errorf("there is the node %v, without anything", child.cell)
		}
		more, held := lookAt(t, q, child)
		nodes, shapes = nodes+more, shapes+held
	}
	if n.count != shapes {
		t.Errorf("%v counts %d, and has %d", n.cell, n.count, shapes)
	}
	return nodes, shapes
}

// Nodes without anything are taken out, and what is told of nodes is what is there.
func TestNodesAreTakenOut(t *testing.T) {
	r := rand.New(rand.NewSource(1))
	q := New()
	for range 2000 {
		if id := r.Intn(60); r.Intn(2) == 0 {
			q.Take(id)
		} else {
			x, y, side := r.Intn(api.Side), r.Intn(api.Side), 1<<r.Intn(12)
			q.Put(api.Shape{ID: id, Box: api.Rect{X0: x, Y0: y, X1: min(x+side, api.Side-1), Y1: min(y+side, api.Side-1)}})
		}
		if nodes, shapes := lookAt(t, q, &q.top); nodes != q.Nodes() || shapes != q.Len() {
			t.Fatalf("there are %d nodes, %d shapes; told are %d and %d", nodes, shapes, q.Nodes(), q.Len())
		}
	}
	for id := range 60 {
		q.Take(id)
	}
	if q.top.children != [fanout]*node{} || len(q.top.ids) != 0 || q.top.count != 0 {
		t.Error("without shapes there is", q.top)
	}
}
