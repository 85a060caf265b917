package props

import (
	"slices"
	"strconv"
	"strings"

	"rubricator/api"
	"rubricator/lines"
	"rubricator/trie"
)

// table is a trie of all code points: those of which a file says nothing have the first one of values.
type table[T comparable] struct {
	*trie.Trie[T]
	values []T
}

// lists is lists of code points, which no trie can have as values: they can't be compared.
type lists map[int][]int

// tableOf is the table of what read finds in records' fields, with none where they say nothing.
func tableOf[T comparable](l []api.Record, none T, read func(fields []string) T) table[T] {
	values := []T{none}
	places := map[T]int{none: 0}
	entries := []api.Entry{{Lo: 0, Hi: api.MaxRune, Value: 0}} // later ones go over it
	for _, x := range l {
		v := read(x.Fields)
		place, known := places[v]
		if !known {
			place = len(values)
			places[v] = place
			values = append(values, v)
		}
		entries = append(entries, api.Entry{Lo: x.Lo, Hi: x.Hi, Value: place})
	}
	return table[T]{Trie: trie.Build(entries, values), values: values}
}

// of is what is said of a number; of one that is no code point the files say nothing.
func (t table[T]) of(r int) T {
	if v, ok := t.Get(r); ok {
		return v
	}
	return t.values[0]
}

// partsOf is what the records' code points are made of.
func partsOf(l []api.Record) lists {
	out := lists{}
	for _, x := range l {
		for r := x.Lo; r <= x.Hi; r++ {
			out[r] = codePoints(x.Fields[0])
		}
	}
	return out
}

// foldingsOf is what code points fold to by the records with that status.
func foldingsOf(l []api.Record, status string) lists {
	out := lists{}
	for _, x := range l {
		if x.Fields[0] != status || len(x.Fields) < 2 {
			continue
		}
		first := codePoints(x.Fields[1])
		for r := x.Lo; r <= x.Hi; r++ {
			out[r] = along(first, r-x.Lo)
		}
	}
	return out
}

// along is a folding of a record's first code point, for the one that is so many further.
func along(first []int, further int) []int {
	out := slices.Clone(first)
	for i := range out {
		out[i] += further
	}
	return out
}

// records reads a pinned file: no line of it can be wrong.
func records(file string) []api.Record {
	l, _, _ := lines.Parse(file)
	return l
}

func text(fields []string) string { return fields[0] }

// number is of decimal digits; the pinned files have no others.
func number(fields []string) int {
	n, _ := strconv.Atoi(fields[0])
	return n
}

// codePoints reads code points parted by blanks.
func codePoints(field string) []int {
	var out []int
	for s := range strings.FieldsSeq(field) {
		if r, ok := lines.Hex(s); ok {
			out = append(out, r)
		}
	}
	return out
}
