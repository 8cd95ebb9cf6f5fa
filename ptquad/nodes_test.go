package ptquad

import (
	"testing"

	"paravent/api"
)

// Places of nodes that are gone are used again: a tree that does the same again and again needs no more of them.
func TestPlacesAreUsedAgain(t *testing.T) {
	q, _ := New(1)
	turn := func() {
		for i := range 40 {
			q.Insert(api.Record{ID: i, At: api.Point{X: i * 7, Y: i * i}})
		}
		for i := range 40 {
			q.Delete((i * 11) % 40)
		}
	}
	turn()
	places := len(q.nodes)
	for range 20 {
		turn()
	}
	if len(q.nodes) != places || q.Nodes() != 1 {
		t.Errorf("%d places, then %d; %d nodes", places, len(q.nodes), q.Nodes())
	}
}
