package policy

import (
	"paravent/api"
)

// reader reads declarations from tokens. A token is taken just if it can follow those ahead of it, so that the first one that can't is the first one left.
type reader struct {
	left []api.Token
	decl api.Decl // the one that is being read
}

// place is where the next token stands, or the end.
func (r *reader) place(end api.Pos) api.Pos {
	if len(r.left) == 0 {
		return end
	}
	return r.left[0].At
}

// all reads all declarations.
func (r *reader) all() ([]api.Decl, bool) {
	var l []api.Decl
	for len(r.left) > 0 {
		r.decl = api.Decl{At: r.left[0].At}
		if !r.head() || !r.body() || !r.takes(end) {
			return nil, false
		}
		l = append(l, r.decl)
	}
	return l, true
}

// takes takes the next token, if it is that word or mark.
func (r *reader) takes(text string) bool {
	if len(r.left) == 0 || r.left[0].Text != text {
		return false
	}
	r.left = r.left[1:]
	return true
}

// takesKind takes the next token, if it is of a kind.
func (r *reader) takesKind(kind int) (api.Token, bool) {
	if len(r.left) == 0 || r.left[0].Kind != kind {
		return api.Token{}, false
	}
	t := r.left[0]
	r.left = r.left[1:]
	return t, true
}

// after takes a word or mark, and reads what comes next.
func (r *reader) after(text string, next func() bool) bool {
	return r.takes(text) && next()
}

// head reads the word that tells the kind.
func (r *reader) head() bool {
	for kind, word := range heads {
		if r.takes(word) {
			r.decl.Kind = kind
			return true
		}
	}
	return false
}

// body reads what comes between the head and the end.
func (r *reader) body() bool {
	switch r.decl.Kind {
	case api.DRole, api.DLabel:
		return r.name(&r.decl.Name) && r.after(is, r.value)
	case api.DRegion:
		return r.name(&r.decl.Name) && r.after(is, r.boxes)
	case api.DAllow, api.DCap:
		return r.after(wordRole, r.role) && r.after(wordTier, r.tiers) && r.after(wordLabel, r.label) &&
			r.after(wordIn, r.where) && r.after(wordZoom, r.zoom)
	case api.DCloak:
		return r.after(wordRole, r.role)
	}
	return false
}

// name reads a name.
func (r *reader) name(to *string) bool {
	t, ok := r.takesKind(api.WName)
	*to = t.Text
	return ok
}

// number reads a number.
func (r *reader) number(to *int) bool {
	t, ok := r.takesKind(api.WNum)
	*to = t.N
	return ok
}

// value reads the number that a name is given.
func (r *reader) value() bool {
	return r.number(&r.decl.N)
}

// zoom reads the zoom.
func (r *reader) zoom() bool {
	return r.number(&r.decl.Zoom)
}

// boxes reads a region's boxes.
func (r *reader) boxes() bool {
	for {
		var b api.Rect
		if !r.number(&b.X0) || !r.number(&b.Y0) || !r.number(&b.X1) || !r.number(&b.Y1) {
			return false
		}
		r.decl.Boxes = append(r.decl.Boxes, b)
		if !r.takes(and) {
			return true
		}
	}
}

// tiers reads tiers.
func (r *reader) tiers() bool {
	if r.takes(wordAny) {
		r.decl.Hi = api.MaxTier
		return true
	}
	if !r.number(&r.decl.Lo) {
		return false
	}
	r.decl.Hi = r.decl.Lo
	return !r.takes(upTo) || r.number(&r.decl.Hi)
}

// who reads a who.
func (r *reader) who(to *api.Who) bool {
	to.At = r.place(api.Pos{})
	to.Any = r.takes(wordAny)
	return to.Any || r.name(&to.Name) || r.number(&to.N)
}

// role reads for which roles a rule is.
func (r *reader) role() bool {
	return r.who(&r.decl.Role)
}

// label reads for which labels a rule is.
func (r *reader) label() bool {
	return r.who(&r.decl.Label)
}

// where reads in which region a rule is: unlike a who, no number tells it.
func (r *reader) where() bool {
	to := &r.decl.Where
	to.At = r.place(api.Pos{})
	to.Any = r.takes(wordAll)
	return to.Any || r.name(&to.Name)
}
