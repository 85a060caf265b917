// Package lines is layer 2, files as records: see ../../shared/doc/02-lines.md.
package lines

import (
	"strconv"
	"strings"

	"rubricator/api"
)

const (
	blanks    = " \t"
	between   = ".." // of a record's two code points
	minDigits = 4
	maxDigits = 6
)

// Parse is the records of a file, or the number of the first line that can't be.
func Parse(text string) ([]api.Record, int, api.Errno) {
	var out []api.Record
	number := 0
	for line := range strings.SplitSeq(text, "\n") {
		number++
		fields := fieldsOf(line)
		if len(fields) == 0 {
			continue
		}
		r, ok := recordOf(fields)
		if !ok {
			return nil, number, api.ErrLine
		}
		out = append(out, r)
	}
	return out, 0, api.OK
}

// Print is records as a file, a line each.
func Print(l []api.Record) (string, api.Errno) {
	var out strings.Builder
	for _, r := range l {
		if !printable(r) {
			return "", api.ErrArg
		}
		out.WriteString(digitsOf(r.Lo))
		if r.Hi != r.Lo {
			out.WriteString(between)
			out.WriteString(digitsOf(r.Hi))
		}
		for _, f := range r.Fields {
			out.WriteString(" ; ")
			out.WriteString(f)
		}
		out.WriteByte('\n')
	}
	return out.String(), api.OK
}

// Rows is the fields of each line that says something.
func Rows(text string) [][]string {
	var out [][]string
	for line := range strings.SplitSeq(text, "\n") {
		if fields := fieldsOf(line); len(fields) > 0 {
			out = append(out, fields)
		}
	}
	return out
}

// Hex is the code point of four to six hexadecimal digits.
func Hex(s string) (int, bool) {
	if len(s) < minDigits || len(s) > maxDigits {
		return 0, false
	}
	n := 0
	for _, c := range s {
		d, ok := digitOf(c)
		if !ok {
			return 0, false
		}
		n = n<<4 | d
	}
	if n > api.MaxRune {
		return 0, false
	}
	return n, true
}

// fieldsOf is the fields of a line; none, if it says nothing.
func fieldsOf(line string) []string {
	var out []string
	start, end := 0, len(line)
scan:
	for i, c := range line {
		switch c {
		case '#':
			end = i
			break scan
		case ';':
			out = append(out, trimmed(line[start:i]))
			start = i + 1
		}
	}
	last := trimmed(line[start:end])
	if len(out) == 0 && last == "" {
		return nil
	}
	return append(out, last)
}

// trimmed is a copy, as an answer must not hold on to the text that it is told of.
func trimmed(s string) string { return strings.Clone(strings.Trim(s, blanks)) }

// recordOf takes the first field for code points; false, if it is none, or the only field.
func recordOf(fields []string) (api.Record, bool) {
	lo, hi, ok := boundsOf(fields[0])
	if !ok || len(fields) < 2 {
		return api.Record{}, false
	}
	return api.Record{Lo: lo, Hi: hi, Fields: fields[1:]}, true
}

// boundsOf reads a code point, or two that don't fall.
func boundsOf(s string) (lo, hi int, ok bool) {
	first, second, two := strings.Cut(s, between)
	if !two {
		second = first
	}
	lo, okLo := Hex(first)
	hi, okHi := Hex(second)
	if !okLo || !okHi || lo > hi {
		return 0, 0, false
	}
	return lo, hi, true
}

// printable tells whether a line can say a record, so that it is read as the same.
func printable(r api.Record) bool {
	if r.Lo < 0 || r.Lo > r.Hi || r.Hi > api.MaxRune || len(r.Fields) == 0 {
		return false
	}
	for _, f := range r.Fields {
		if strings.ContainsAny(f, ";#\n") || strings.Trim(f, blanks) != f {
			return false
		}
	}
	return true
}

// digitsOf is a code point in great digits, four at least.
func digitsOf(r int) string {
	s := strings.ToUpper(strconv.FormatInt(int64(r), 16))
	return strings.Repeat("0", max(0, minDigits-len(s))) + s
}

func digitOf(c rune) (int, bool) {
	switch {
	case c >= '0' && c <= '9':
		return int(c - '0'), true
	case c >= 'A' && c <= 'F':
		return int(c-'A') + 10, true
	case c >= 'a' && c <= 'f':
		return int(c-'a') + 10, true
	}
	return 0, false
}
