package audit

import (
	"testing"

	"paravent/api"
)

// What was drained is not kept for long: never more than is left.

func TestKept(t *testing.T) {
	for _, page := range []int{1, 64, 999, 5000} {
		a := New()
		for i := range 10000 {
			a.Put(api.Event{User: i})
		}
		for a.Len() > 0 {
			a.Drain(page)
			if a.gone > a.Len() || len(a.held) != a.gone+a.Len() {
				t.Fatalf("%d drained events are kept, %d are left", a.gone, a.Len())
			}
		}
		if a.held != nil {
			t.Errorf("room for %d is kept for none", cap(a.held))
		}
	}
}

// Many small drains move each event but seldom.

func TestSmallDrains(t *testing.T) {
	a := New()
	for i := range 10000 {
		a.Put(api.Event{User: i})
	}
	moved := 0
	for a.Len() > 0 {
		before := a.gone
		a.Drain(1)
		if a.gone <= before {
			moved += a.Len()
		}
	}
	if moved > 10000 {
		t.Error("moved:", moved)
	}
}
