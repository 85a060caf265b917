package word

import "rubricator/props"

// verdict is what a rule says of a place.
type verdict int

const (
	silent verdict = iota
	edge
	none
)

// rule speaks of the place of a subject, over which it is closed, or is silent.
type rule func() verdict

// subject is code points, and a place between two of them.
type subject struct {
	t  *props.Tables
	l  []int
	at int
}

// near is what the rules say of what touches the place.
func (s subject) near() verdict {
	ahead, behind := s.kind(s.at-1), s.kind(s.at)
	touching := func(a, b kind) bool { return ahead.in(a) && behind.in(b) }
	switch {
	case touching(cr, lf):
		return none
	case touching(lineEnd, all), touching(all, lineEnd):
		return edge
	case touching(zwj, picture), touching(space, space), touching(all, passed):
		return none
	}
	return silent
}

// far is what they say of what stands around the place where some are passed by. None speaks of a line end, so that one is as nothing here.
func (s subject) far() verdict {
	last := s.ahead(s.at)
	before, ahead := s.kind(s.ahead(last)), s.kind(last)
	behind, after := s.kind(s.at), s.kind(s.behind(s.at))
	pair := func(a, b kind) bool { return ahead.in(a) && behind.in(b) }
	bridge := func(side, middle kind) bool { // neither end of a middle between two sides is an edge
		return pair(side, middle) && after.in(side) || before.in(side) && pair(middle, side)
	}
	switch {
	case pair(letters, letters), bridge(letters, midLetter|quotes),
		pair(hebrew, singleQuote), bridge(hebrew, doubleQuote),
		pair(numeric, numeric), pair(letters, numeric), pair(numeric, letters),
		bridge(numeric, midNum|quotes),
		pair(katakana, katakana), pair(joined|joiner, joiner), pair(joiner, joined),
		s.withinFlags():
		return none
	}
	return silent
}

// withinFlags tells whether the place stands within a pair of flags, counted from where the flags begin.
func (s subject) withinFlags() bool {
	if s.kind(s.at) != flag {
		return false
	}
	n := 0
	for at := s.ahead(s.at); s.kind(at) == flag; at = s.ahead(at) {
		n++
	}
	return n%2 == 1
}

// kind is the kind of the code point at a place; nothing where there is none.
func (s subject) kind(at int) kind {
	if at < 0 || at >= len(s.l) {
		return nothing
	}
	return kindOf(s.t.Word(s.l[at]))
}

// ahead is where the nearest one ahead of a place stands that is not passed by, behind likewise the nearest one behind what stands there; out of the list, if there is none.
func (s subject) ahead(at int) int {
	at--
	for s.kind(at).in(passed) {
		at--
	}
	return at
}

func (s subject) behind(at int) int {
	at++
	for s.kind(at).in(passed) {
		at++
	}
	return at
}
