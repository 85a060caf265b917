package token

import (
	"rubricator/api"
	"rubricator/utf"
)

const (
	maxName   = 20 // bytes of a NAME
	maxCount  = 3  // digits of a repetition's number
	unbounded = -1 // the greatest number of a repetition that may go on
)

// Modes of a TokOpen, as the chapter numbers them.
const (
	openGroup = iota
	openPlain
	openNamed
	openAhead
	openNotAhead
	openBehind
	openNotBehind
	openAtomic
)

// scanner goes through a pattern byte by byte, and judges what numbers and names mean only behind a token's last byte: so a pattern that ends early is told from one that is wrong. It gives up by a panic with an api.Fault, from anywhere within a token.
type scanner struct {
	p      []byte
	at     int // the next byte
	start  int // the first byte of the token at hand
	nested int // how many classes are open
	tokens []api.Token
}

// run reads tokens up to the pattern's end or a fault. A panic with anything else is no pattern's fault, and goes on.
func (s *scanner) run() (fault api.Fault) {
	defer func() {
		if x := recover(); x != nil {
			fault = x.(api.Fault)
		}
	}()
	for s.at < len(s.p) {
		s.start = s.at
		t := s.token()
		t.Start, t.End = s.start, s.at
		s.tokens = append(s.tokens, t)
	}
	return api.Fault{}
}

func (s *scanner) token() api.Token {
	r := s.point()
	switch {
	case r == '\\':
		return s.escape()
	case s.nested > 0:
		return s.within(r)
	}
	return s.outside(r)
}

// outside is a token outside of classes.
func (s *scanner) outside(r int) api.Token {
	switch r {
	case '.':
		return api.Token{Kind: api.TokAny}
	case '|':
		return api.Token{Kind: api.TokBar}
	case '(':
		return s.open()
	case ')':
		return api.Token{Kind: api.TokClose}
	case '*':
		return s.repeat(0, unbounded)
	case '+':
		return s.repeat(1, unbounded)
	case '?':
		return s.repeat(0, 1)
	case '{':
		return s.counted()
	case '^':
		return assertion(api.AtBegin)
	case '$':
		return assertion(api.AtEnd)
	case '[':
		return s.class()
	}
	return char(r)
}

// within is a token within a class.
func (s *scanner) within(r int) api.Token {
	switch {
	case r == '[':
		return s.class()
	case r == ']':
		s.nested--
		return api.Token{Kind: api.TokEnd}
	case r == '&' && s.accept('&'):
		return api.Token{Kind: api.TokSet, Mode: api.Meet}
	case r == '-' && s.accept('-'):
		return api.Token{Kind: api.TokSet, Mode: api.Minus}
	case r == '~' && s.accept('~'):
		return api.Token{Kind: api.TokSet, Mode: api.Xor}
	case r == '-':
		return api.Token{Kind: api.TokDash}
	}
	return char(r)
}

func (s *scanner) class() api.Token {
	s.nested++
	return api.Token{Kind: api.TokClass, Neg: s.accept('^')}
}

func (s *scanner) open() api.Token {
	if !s.accept('?') {
		return opening(openGroup)
	}
	switch s.octet() {
	case ':':
		return opening(openPlain)
	case '=':
		return opening(openAhead)
	case '!':
		return opening(openNotAhead)
	case '>':
		return opening(openAtomic)
	case '<':
		return s.openLeft()
	}
	panic(s.none())
}

// openLeft is what begins with (?<: a look behind, or a name.
func (s *scanner) openLeft() api.Token {
	switch {
	case s.accept('='):
		return opening(openBehind)
	case s.accept('!'):
		return opening(openNotBehind)
	}
	t := opening(openNamed)
	t.Name = s.name()
	return t
}

// counted is a repetition by numbers.
func (s *scanner) counted() api.Token {
	least, mark := s.number(10, maxCount)
	most := least
	switch {
	case mark == ',' && s.accept('}'):
		most, mark = unbounded, '}'
	case mark == ',':
		most, mark = s.number(10, maxCount)
	}
	falls := most != unbounded && most < least
	if mark != '}' || falls || max(least, most) > api.MaxRepeat {
		panic(s.none())
	}
	return s.repeat(least, most)
}

func (s *scanner) repeat(least, most int) api.Token {
	t := api.Token{Kind: api.TokRepeat, A: least, B: most, Mode: api.Greedy}
	switch {
	case s.accept('?'):
		t.Mode = api.Lazy
	case s.accept('+'):
		t.Mode = api.Possessive
	}
	return t
}

// name is a NAME; the > behind it is taken too.
func (s *scanner) name() string {
	begin := s.at
	for size := 0; ; size++ {
		c := s.octet() // a statement of its own: it moves s.at on, and Go leaves open which of two operands is read first
		switch {
		case c == '>' && size > 0:
			return string(s.p[begin : s.at-1])
		case size == maxName:
			panic(s.none())
		case c != '_' && !isLetter(int(c)) && (size == 0 || !isDigit(int(c))):
			panic(s.none())
		}
	}
}

// number is one to so many digits of a base, and the byte behind them.
func (s *scanner) number(base, most int) (n int, behind byte) {
	for size := 0; ; size++ {
		c := s.octet()
		d, ok := digit(c, base)
		switch {
		case !ok && size > 0:
			return n, c
		case !ok || size == most:
			panic(s.none())
		}
		n = n*base + d
	}
}

// point is the next code point. Bytes are asked ahead of the end: a part that is cut off is malformed.
func (s *scanner) point() int {
	x, ok := utf.Next(s.p, s.at)
	switch {
	case !ok:
		panic(s.cut())
	case !utf.Valid(s.p[x.Start:x.End]):
		panic(api.Fault{Code: api.ErrBytes, At: x.Start})
	}
	s.at = x.End
	return x.R
}

// octet is the next byte.
func (s *scanner) octet() byte {
	if s.at == len(s.p) {
		panic(s.cut())
	}
	s.at++
	return s.p[s.at-1]
}

// accept takes the next byte, if it is that one.
func (s *scanner) accept(c byte) bool {
	if s.at == len(s.p) || s.p[s.at] != c {
		return false
	}
	s.at++
	return true
}

// want takes the next byte, which must be that one.
func (s *scanner) want(c byte) {
	if s.octet() != c {
		panic(s.none())
	}
}

// cut is the fault of a token within which the pattern ends.
func (s *scanner) cut() api.Fault {
	return api.Fault{Code: api.ErrEnd, At: len(s.p)}
}

// none is the fault of a token that is none: its first byte says what it would have been.
func (s *scanner) none() api.Fault {
	switch s.p[s.start] {
	case '{':
		return api.Fault{Code: api.ErrRepeat, At: s.start}
	case '(':
		return api.Fault{Code: api.ErrMark, At: s.start}
	}
	return api.Fault{Code: api.ErrEscape, At: s.start}
}

func opening(mode int) api.Token { return api.Token{Kind: api.TokOpen, Mode: mode} }

func assertion(mode int) api.Token { return api.Token{Kind: api.TokAssert, Mode: mode} }

func char(r int) api.Token { return api.Token{Kind: api.TokChar, A: r} }

func isLetter(r int) bool { return r >= 'a' && r <= 'z' || r >= 'A' && r <= 'Z' }

func isDigit(r int) bool { return r >= '0' && r <= '9' }

// digit is what a byte says as a digit of a base, of at most 16.
func digit(c byte, base int) (int, bool) {
	d := base
	switch {
	case c >= '0' && c <= '9':
		d = int(c - '0')
	case c >= 'a' && c <= 'f':
		d = int(c-'a') + 10
	case c >= 'A' && c <= 'F':
		d = int(c-'A') + 10
	}
	return d, d < base
}
