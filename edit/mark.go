package edit

import (
	"bytes"
	"slices"
)

const (
	maxDigits   = 2 // of a number behind a $
	maxInBraces = 3 // of one in braces
)

// kind is what bytes of a template stand for.
type kind int

const (
	wrong  kind = iota // nothing
	plain              // what is said
	number             // the group whose number is said
	name               // the group whose name is said
)

// mark is a byte, or a $ and what belongs to it.
type mark struct {
	kind kind
	said []byte
	size int // of all of it
}

// markOf is the one with which bytes begin.
func markOf(s []byte) mark {
	behind := s[1:]
	switch {
	case s[0] != '$':
		return mark{kind: plain, said: s[:1], size: 1}
	case bytes.HasPrefix(behind, []byte("$")):
		return mark{kind: plain, said: s[:1], size: 2}
	case bytes.HasPrefix(behind, []byte("{")):
		return markInBraces(s)
	}
	n := 0
	for n < len(behind) && n < maxDigits && isDigit(behind[n]) {
		n++
	}
	if n == 0 {
		return mark{}
	}
	return mark{kind: number, said: behind[:n], size: 1 + n}
}

func markInBraces(s []byte) mark {
	const begin = 2 // behind the brace
	end := bytes.IndexByte(s, '}')
	if end <= begin {
		return mark{}
	}
	m := mark{said: s[begin:end], size: end + 1}
	switch {
	case isNumber(m.said):
		m.kind = number
	case isName(m.said):
		m.kind = name
	}
	return m
}

// group is that for which a mark stands, and whether it is there.
func (m mark) group(groups int, names []string) (int, bool) {
	switch m.kind {
	case number:
		n := valueOf(m.said)
		return n, n <= groups
	case name:
		if len(names) > 0 { // at 0 stands the whole, which has no name
			at := slices.Index(names[1:], string(m.said))
			return at + 1, at >= 0
		}
	}
	return 0, false
}

func isDigit(c byte) bool { return '0' <= c && c <= '9' }

func isLetter(c byte) bool { return 'a' <= c && c <= 'z' || 'A' <= c && c <= 'Z' || c == '_' }

func isNumber(s []byte) bool {
	for _, c := range s {
		if !isDigit(c) {
			return false
		}
	}
	return len(s) <= maxInBraces
}

func isName(s []byte) bool {
	for _, c := range s {
		if !isLetter(c) && !isDigit(c) {
			return false
		}
	}
	return !isDigit(s[0])
}

func valueOf(digits []byte) int {
	n := 0
	for _, c := range digits {
		n = 10*n + int(c-'0')
	}
	return n
}

// addText lays bytes behind the text with which parts end, or begins one.
func addText(l []Part, said []byte) []Part {
	if len(l) == 0 || l[len(l)-1].A != text {
		l = append(l, Part{A: text})
	}
	last := &l[len(l)-1]
	last.Text = append(last.Text, said...)
	return l
}
