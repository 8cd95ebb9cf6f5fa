package rules

import (
	"slices"

	"paravent/api"
	"paravent/geom"
)

// checker checks declarations that may be, one by one.
type checker struct {
	names map[int]map[string]api.Decl // what was declared, by its kind and then its name
	rules []api.Rule
	boxes int // how many all rules have together
}

// take takes the next declaration, or tells its fault.
func (c *checker) take(d api.Decl) api.Fault {
	switch d.Kind {
	case api.DRole, api.DLabel, api.DRegion:
		return fault(c.declare(d), d.At)
	}
	return c.rule(d)
}

// fault is an error at its place, if it is one: without an error there is no place.
func fault(e api.Errno, at api.Pos) api.Fault {
	if e == api.OK {
		return api.Fault{}
	}
	return api.Fault{Err: e, At: at}
}

// declare takes a name. Each kind has names of its own, so that a role and a label may have the same.
func (c *checker) declare(d api.Decl) api.Errno {
	if c.names[d.Kind] == nil {
		c.names[d.Kind] = map[string]api.Decl{}
	}
	if _, ok := c.names[d.Kind][d.Name]; ok {
		return api.ErrTwice
	}
	if !fits(d) {
		return api.ErrRange
	}
	c.names[d.Kind][d.Name] = d
	return api.OK
}

// fits tells whether there is what a name is declared to be.
func fits(d api.Decl) bool {
	switch d.Kind {
	case api.DRole:
		return d.N <= api.MaxRole
	case api.DLabel:
		return d.N <= api.MaxLabel
	}
	return allRight(d.Boxes)
}

// rule takes a rule. A cloak has nothing that could be wrong but its roles.
func (c *checker) rule(d api.Decl) api.Fault {
	if len(c.rules) == api.MaxRules {
		return fault(api.ErrLong, d.At)
	}
	roles, f := sum(d.Role, c.role, api.MaxRole)
	if f.Err != api.OK {
		return f
	}
	r := api.Rule{Kind: d.Kind, Roles: roles}
	if d.Kind != api.DCloak {
		r, f = c.sight(d, r)
	}
	if f.Err != api.OK {
		return f
	}
	c.rules = append(c.rules, r)
	return api.Fault{}
}

// sight is a rule with what is beyond its roles: what is seen, where, and how closely.
func (c *checker) sight(d api.Decl, r api.Rule) (api.Rule, api.Fault) {
	if d.Lo > d.Hi || d.Hi > api.MaxTier {
		return api.Rule{}, fault(api.ErrRange, d.At)
	}
	labels, f := sum(d.Label, c.label, api.MaxLabel)
	if f.Err != api.OK {
		return api.Rule{}, f
	}
	boxes, ok := c.region(d.Where)
	if !ok {
		return api.Rule{}, fault(api.ErrNone, d.Where.At)
	}
	c.boxes += len(boxes)
	if c.boxes > api.MaxBoxes {
		return api.Rule{}, fault(api.ErrLong, d.At)
	}
	if d.Zoom > api.MaxLevel {
		return api.Rule{}, fault(api.ErrRange, d.At)
	}
	r.Lo, r.Hi, r.Labels, r.Boxes, r.Zoom = d.Lo, d.Hi, labels, slices.Clone(boxes), d.Zoom
	return r, api.Fault{}
}

// sum is the sum for a who: that of all, or of its number, or of the number that its name has.
func sum(w api.Who, number func(name string) (int, bool), most int) (int, api.Fault) {
	if w.Any {
		return all(most), api.Fault{}
	}
	n := w.N
	if w.Name != "" {
		found, ok := number(w.Name)
		if !ok {
			return 0, fault(api.ErrNone, w.At)
		}
		n = found
	}
	if n > most {
		return 0, fault(api.ErrRange, w.At)
	}
	return 1 << n, api.Fault{}
}

// role is the number of the role of a name.
func (c *checker) role(name string) (int, bool) {
	d, ok := c.names[api.DRole][name]
	return d.N, ok
}

// label is the number of the label of a name.
func (c *checker) label(name string) (int, bool) {
	d, ok := c.names[api.DLabel][name]
	return d.N, ok
}

// region are the boxes of where a rule is.
func (c *checker) region(w api.Who) ([]api.Rect, bool) {
	if w.Any {
		return []api.Rect{geom.Grid()}, true
	}
	d, ok := c.names[api.DRegion][w.Name]
	return d.Boxes, ok
}
