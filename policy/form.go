package policy

import (
	"strconv"
	"strings"

	"paravent/api"
)

// What stands in a policy beside names and numbers.
const (
	wordRole   = "role"
	wordLabel  = "label"
	wordRegion = "region"
	wordAllow  = "allow"
	wordCap    = "cap"
	wordCloak  = "cloak"
	wordTier   = "tier"
	wordIn     = "in"
	wordZoom   = "zoom"
	wordAny    = "any"
	wordAll    = "all"
	is         = "="
	and        = "+"
	upTo       = ".."
	end        = ";"
)

// heads are the words with which declarations begin, by their kinds.
var heads = [...]string{
	api.DRole:   wordRole,
	api.DLabel:  wordLabel,
	api.DRegion: wordRegion,
	api.DAllow:  wordAllow,
	api.DCap:    wordCap,
	api.DCloak:  wordCloak,
}

// form is a declaration's form: what stands ahead of its end, a blank between two.
type form []string

// put puts texts behind the others.
func (f *form) put(texts ...string) {
	*f = append(*f, texts...)
}

// putNumbers puts the texts of numbers behind the others.
func (f *form) putNumbers(l ...int) {
	for _, n := range l {
		f.put(strconv.Itoa(n))
	}
}

// line is the line of a form.
func (f form) line() string {
	return strings.Join(f, " ") + end + "\n"
}

// formOf is the form of a declaration, nothing if there is no such kind. What the kind doesn't have is left out.
func formOf(d api.Decl) form {
	var f form
	switch d.Kind {
	case api.DRole, api.DLabel:
		f.put(heads[d.Kind], d.Name, is)
		f.putNumbers(d.N)
	case api.DRegion:
		f.put(heads[d.Kind], d.Name, is)
		for i, b := range d.Boxes {
			if i > 0 {
				f.put(and)
			}
			f.putNumbers(b.X0, b.Y0, b.X1, b.Y1)
		}
	case api.DAllow, api.DCap:
		f.put(heads[d.Kind], wordRole, who(d.Role, wordAny), wordTier, tiers(d.Lo, d.Hi))
		f.put(wordLabel, who(d.Label, wordAny), wordIn, who(d.Where, wordAll), wordZoom)
		f.putNumbers(d.Zoom)
	case api.DCloak:
		f.put(heads[d.Kind], wordRole, who(d.Role, wordAny))
	}
	return f
}

// who is the text of a who, with the word that is for all.
func who(w api.Who, every string) string {
	switch {
	case w.Any:
		return every
	case w.Name != "":
		return w.Name
	}
	return strconv.Itoa(w.N)
}

// tiers are the text of tiers.
func tiers(lo, hi int) string {
	switch {
	case lo == 0 && hi == api.MaxTier:
		return wordAny
	case lo == hi:
		return strconv.Itoa(lo)
	}
	return strconv.Itoa(lo) + upTo + strconv.Itoa(hi)
}
