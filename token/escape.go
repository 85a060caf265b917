package token

import (
	"rubricator/api"
	"rubricator/names"
	"rubricator/utf"
)

const (
	maxHex  = 6 // digits of a code point
	maxBack = 2 // digits of a group's number
)

// escape is what a backslash begins.
func (s *scanner) escape() api.Token {
	r := s.point()
	switch r {
	case 'd', 'w', 's':
		return property(string(rune(r)), false)
	case 'D', 'W', 'S':
		return property(string(rune(r-'A'+'a')), true)
	case 'p', 'P':
		return property(s.expression(), r == 'P')
	case 'n':
		return char('\n')
	case 't':
		return char('\t')
	case 'r':
		return char('\r')
	case 'x':
		return s.hex()
	}
	switch {
	case !isLetter(r) && !isDigit(r):
		return char(r)
	case s.nested > 0:
		panic(s.none())
	}
	return s.escapeOutside(r)
}

// escapeOutside is an escape that is none within a class.
func (s *scanner) escapeOutside(r int) api.Token {
	switch r {
	case 'A':
		return assertion(api.TextBegin)
	case 'z':
		return assertion(api.TextEnd)
	case 'b':
		return s.edge(api.WordEdge, api.Cluster, api.Words)
	case 'B':
		return s.edge(api.NoWordEdge, api.NoCluster, api.NoWords)
	case 'X':
		return api.Token{Kind: api.TokCluster}
	case 'k':
		return s.back()
	case '1', '2', '3', '4', '5', '6', '7', '8', '9':
		return api.Token{Kind: api.TokBack, A: r - '0'}
	}
	panic(s.none())
}

// edge is an assertion of one of three kinds: of a simple word, of a cluster by {g}, of a word by {w}.
func (s *scanner) edge(simple, cluster, words int) api.Token {
	if !s.accept('{') {
		return assertion(simple)
	}
	mode := words
	switch s.octet() {
	case 'g':
		mode = cluster
	case 'w':
	default:
		panic(s.none())
	}
	s.want('}')
	return assertion(mode)
}

func (s *scanner) back() api.Token {
	switch s.octet() {
	case '<':
		return api.Token{Kind: api.TokBack, Name: s.name()}
	case '{':
		n, mark := s.number(10, maxBack)
		if mark == '}' && n > 0 {
			return api.Token{Kind: api.TokBack, A: n}
		}
	}
	panic(s.none())
}

func (s *scanner) hex() api.Token {
	s.want('{')
	r, mark := s.number(16, maxHex)
	if _, ok := utf.Encode(r); !ok || mark != '}' {
		panic(s.none())
	}
	return char(r)
}

// expression is the name of the property that an expression between braces means.
func (s *scanner) expression() string {
	s.want('{')
	begin := s.at
	for s.point() != '}' {
	}
	kind, value, e := names.Resolve(string(s.p[begin : s.at-1]))
	if e != api.OK {
		panic(api.Fault{Code: e, At: s.start})
	}
	switch kind {
	case api.PropCategory:
		return "gc=" + value
	case api.PropScript:
		return "sc=" + value
	}
	return value
}

func property(name string, neg bool) api.Token {
	return api.Token{Kind: api.TokProp, Name: name, Neg: neg}
}
