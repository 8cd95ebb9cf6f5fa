package lex

import (
	"strings"

	"paravent/api"
)

// none is what is next where no byte is left.
const none = -1

// reader takes a text byte by byte.
type reader struct {
	left string
	at   api.Pos
}

// next is the byte that is next.
func (r *reader) next() int {
	if len(r.left) == 0 {
		return none
	}
	return int(r.left[0])
}

// more tells whether a byte is left.
func (r *reader) more() bool {
	return r.next() != none
}

// letter tells whether a letter is next.
func (r *reader) letter() bool {
	return r.next() >= 'a' && r.next() <= 'z'
}

// digit tells whether a digit is next.
func (r *reader) digit() bool {
	return r.next() >= '0' && r.next() <= '9'
}

// ofName tells whether a byte is next that a name may have behind its first letter.
func (r *reader) ofName() bool {
	return r.letter() || r.digit() || r.next() == '-'
}

// blank tells whether a blank is next.
func (r *reader) blank() bool {
	return r.next() == ' ' || r.next() == '\n'
}

// ofLine tells whether a byte of the same line is next.
func (r *reader) ofLine() bool {
	return r.more() && r.next() != '\n'
}

// step takes the byte that is next: there is one.
func (r *reader) step() byte {
	b := r.left[0]
	r.left = r.left[1:]
	r.at.Col++
	if b == '\n' {
		r.at = api.Pos{Line: r.at.Line + 1, Col: 1}
	}
	return b
}

// take takes bytes while something holds of what is next, which it doesn't where no byte is left.
func (r *reader) take(holds func() bool) string {
	var taken []byte
	for holds() {
		taken = append(taken, r.step())
	}
	return string(taken)
}

// skip takes the blanks and remarks that are next.
func (r *reader) skip() {
	for r.take(r.blank); r.next() == '#'; r.take(r.blank) {
		r.take(r.ofLine)
	}
}

// token takes the token that is next, with which its error is found; its place is left out.
func (r *reader) token() (api.Token, api.Errno) {
	switch {
	case r.letter():
		return name(r.take(r.ofName))
	case r.digit():
		return number(r.take(r.digit))
	}
	return r.mark()
}

// mark takes the mark that is next.
func (r *reader) mark() (api.Token, api.Errno) {
	for _, m := range marks {
		if strings.HasPrefix(r.left, m) {
			for range len(m) {
				r.step()
			}
			return api.Token{Kind: api.WMark, Text: m}, api.OK
		}
	}
	return api.Token{}, api.ErrChar
}
