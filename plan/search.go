package plan

import (
	"paravent/api"
	"paravent/cell"
	"paravent/geom"
	"paravent/queue"
)

// search is who seeks the first how many of things, records or cloaks, and what is seen of one.
type search[T any] struct {
	world  World
	viewer Viewer
	m      int
	see    func(World, Viewer, T) (api.Seen, bool)
}

// Window is what is seen of the records in a rectangle.
func Window(w World, v Viewer, r api.Rect, m int) ([]api.Seen, api.Errno) {
	return search[api.Record]{w, v, m, See}.window(r, w.Points.Window)
}

// Cloaks is what is seen of the cloaks in a rectangle.
func Cloaks(w World, v Viewer, r api.Rect, m int) ([]api.Seen, api.Errno) {
	return search[api.Shape]{w, v, m, SeeCloak}.window(r, w.Cloaks.Meets)
}

// Near is what is seen of the records that are nearest.
func Near(w World, v Viewer, p api.Point, m int) ([]api.Seen, api.Errno) {
	return search[api.Record]{w, v, m, See}.nearest(p, w.Points.Nearest)
}

// NearCloaks is what is seen of the cloaks that are nearest.
func NearCloaks(w World, v Viewer, p api.Point, m int) ([]api.Seen, api.Errno) {
	return search[api.Shape]{w, v, m, SeeCloak}.nearest(p, w.Cloaks.Nearest)
}

// window is what is seen in a rectangle, by the IDs. What is seen at a level meets the rectangle just if the thing itself
// meets the rectangle snapped to that level.
func (s search[T]) window(r api.Rect, meets func(api.Rect) []T) ([]api.Seen, api.Errno) {
	if err := s.check(geom.Right(r)); err != api.OK {
		return nil, err
	}
	alike := func(api.Rect) uint64 { return 0 }
	return s.first(alike, func(level int) []T {
		snapped, _ := cell.Snap(r, level)
		return meets(snapped)
	}), api.OK
}

// nearest is what is seen nearest to a point. Of each level as many are wanted as of all, for all may be of that one.
func (s search[T]) nearest(p api.Point, near func(api.Point, int, int, func(T) bool) []T) ([]api.Seen, api.Errno) {
	if err := s.check(geom.Fits(p)); err != api.OK {
		return nil, err
	}
	away := func(box api.Rect) uint64 { return geom.Dist(box, p) }
	return s.first(away, func(level int) []T {
		return near(p, s.m, level, func(x T) bool {
			_, ok := s.seenAt(level, x)
			return ok
		})
	}), api.OK
}

// check is the error of a search, of which it is told whether the place where it is made may be.
func (s search[T]) check(place bool) api.Errno {
	switch {
	case !s.world.isWhole():
		return api.ErrNil
	case !place || !Right(s.viewer) || !within(s.m, api.MaxM):
		return api.ErrArg
	}
	return api.OK
}

// first are the first of what is seen of all that is found: by the keys of their boxes, of the same by the IDs.
func (s search[T]) first(key func(api.Rect) uint64, find func(level int) []T) []api.Seen {
	ahead, found := queue.New(), map[int]api.Seen{}
	for _, level := range s.levels() {
		for _, x := range find(level) {
			if seen, ok := s.seenAt(level, x); ok {
				ahead.Push(api.Entry{Key: key(seen.Box), Item: seen.ID})
				found[seen.ID] = seen
			}
		}
	}
	var l []api.Seen
	for _, e := range ahead.Drain(s.m) {
		l = append(l, found[e.Item])
	}
	return l
}

// levels are those at which anything may be seen, rising.
func (s search[T]) levels() []int {
	var l []int
	most := s.viewer.Grant.Zoom
walk:
	for _, zoom := range s.world.Table.Levels(s.viewer.Role, s.viewer.Tier) {
		switch {
		case zoom < most:
			l = append(l, zoom)
		default: // this and all that come behind it are seen no more closely than the grant lets
			l = append(l, most)
			break walk
		}
	}
	return l
}

// seenAt is what is seen of a thing, if that is seen at a level.
func (s search[T]) seenAt(level int, x T) (api.Seen, bool) {
	seen, ok := s.see(s.world, s.viewer, x)
	return seen, ok && seen.Level == level
}
