package audit_test

import (
	"bytes"
	"fmt"
	"math"
	"slices"
	"strings"
	"testing"

	"rubricator/api"
	"rubricator/audit"
	"rubricator/utf"
)

// found is a match of spans, each as its two places.
func found(places ...int) api.Found {
	var out api.Found
	for l := range slices.Chunk(places, 2) {
		out.Spans = append(out.Spans, api.Span{Start: l[0], End: l[1]})
	}
	return out
}

// matches is those of one span each.
func matches(places ...int) []api.Found {
	var out []api.Found
	for l := range slices.Chunk(places, 2) {
		out = append(out, found(l...))
	}
	return out
}

func lists(parts ...string) [][]byte {
	var out [][]byte
	for _, p := range parts {
		out = append(out, []byte(p))
	}
	return out
}

func TestOrdered(t *testing.T) { // P24.1, P24.4
	for _, c := range []struct {
		l    []api.Found
		size int
		want bool
	}{
		{matches(0, 2, 1, 3), 5, false}, {matches(0, 2, 2, 3), 5, true}, {matches(0, 2, 3, 5), 5, true}, {matches(3, 5, 0, 2), 5, false}, {matches(0, 2, 0, 2), 5, false},
		{nil, 5, true}, {nil, 0, true}, {nil, -1, true}, {nil, math.MinInt, true}, {[]api.Found{}, 3, true},
		{[]api.Found{{}}, 5, false}, {[]api.Found{found(0, 1), {}}, 5, false}, {[]api.Found{{}, found(0, 1)}, 5, false},
		{matches(0, 5), 5, true}, {matches(0, 6), 5, false}, {matches(5, 5), 5, true}, {matches(6, 6), 5, false}, {matches(-1, 0), 5, false}, {matches(-1, -1), 5, false}, {matches(-1, -1), -1, false}, {matches(0, 0), 0, true}, {matches(0, 0), -1, false}, {matches(3, 2), 5, false}, {matches(1, 2, 4, 3), 5, false}, {matches(1, 0), 5, false},
		{matches(0, 0), 5, true}, {matches(0, 0, 0, 0), 5, false}, {matches(2, 2, 2, 2), 5, false}, {matches(0, 2, 2, 2), 5, true}, {matches(0, 2, 2, 2, 2, 2), 5, false}, {matches(2, 2, 2, 3), 5, true}, {matches(2, 2, 2, 3, 3, 3), 5, true}, {matches(2, 2, 3, 3), 5, true}, {matches(3, 3, 2, 2), 5, false}, {matches(2, 2, 2, 2, 3, 4), 5, false},
		{[]api.Found{found(0, 1, 9, -5), found(1, 2, 0, 1)}, 2, true}, {[]api.Found{found(0, 2, 0, 1), found(1, 2)}, 2, false},
		{matches(math.MinInt, math.MaxInt), math.MaxInt, false}, {matches(0, math.MaxInt), math.MaxInt, true}, {matches(0, math.MinInt), 5, false}, {matches(math.MaxInt, math.MaxInt), 5, false}, {matches(0, 2, 2, math.MaxInt), math.MaxInt - 1, false},
	} {
		if got := audit.Ordered(c.l, c.size); got != c.want {
			t.Errorf("%v in %d: %v", c.l, c.size, got)
		}
	}
}

func TestEdges(t *testing.T) { // P24.2
	for _, c := range []struct {
		b    string
		l    []api.Found
		want bool
	}{
		{"\u00e9", matches(0, 1), false}, {"\u00e9", matches(1, 2), false}, {"\u00e9", matches(1, 1), false}, {"\u00e9", matches(0, 2, -1, -1), true}, {"\u00e9", matches(0, 0, 2, 2), true}, {"\u00e9", matches(2, 2, 0, 0), true},
		{"a\u20ac\U0001f600", matches(0, 1, 1, 4, 4, 8, 0, 8, 0, 4), true}, {"a\u20ac\U0001f600", matches(2, 4), false}, {"a\u20ac\U0001f600", matches(3, 4), false}, {"a\u20ac\U0001f600", matches(1, 5), false}, {"a\u20ac\U0001f600", matches(1, 6), false}, {"a\u20ac\U0001f600", matches(7, 8), false},
		{"", nil, true}, {"abc", nil, true}, {"\u00e9", []api.Found{{}}, true}, {"", matches(0, 0), true}, {"", matches(0, 1), false}, {"", matches(1, 1), false},
		{"ab", matches(-1, -1), true}, {"ab", matches(-1, 0), false}, {"ab", matches(-1, 2), false}, {"ab", matches(0, -1), false}, {"ab", matches(2, -1), false}, {"ab", matches(-2, -2), false}, {"ab", matches(-2, -1), false}, {"ab", matches(1, 0), false}, {"ab", matches(2, 1), false}, {"ab", matches(2, 2), true}, {"ab", matches(2, 3), false}, {"ab", matches(3, 3), false}, {"", matches(-1, -1), true},
		{"ab", matches(math.MinInt, math.MaxInt), false}, {"ab", matches(0, math.MaxInt), false}, {"ab", matches(math.MaxInt, math.MaxInt), false}, {"ab", matches(math.MinInt, math.MinInt), false},
		{"\xe2\x82A", matches(0, 2, 2, 3), true}, {"\xe2\x82A", matches(1, 2), false}, {"\xe2\x82", matches(0, 1), false}, {"\xff\xff", matches(0, 1, 1, 2), true}, {"\xed\xa0\x80", matches(0, 1, 1, 2, 2, 3), true},
		{"x\u00e9", []api.Found{found(0, 3, 1, 3, -1, -1, 3, 3)}, true}, {"x\u00e9", []api.Found{found(0, 3, 1, 2)}, false}, {"x\u00e9", []api.Found{found(0, 3), found(0, 1, -1, -1, 2, 3)}, false},
	} {
		if got := audit.Edges([]byte(c.b), c.l); got != c.want {
			t.Errorf("%v in %q: %v", c.l, c.b, got)
		}
	}
}

func TestRebuilt(t *testing.T) { // P24.3, P24.4
	for _, c := range []struct {
		b     string
		parts [][]byte
		l     []api.Found
		want  bool
	}{
		{"xaby", lists("x", "y"), matches(1, 3), true}, {"xaby", lists("x"), matches(1, 3), false}, {"xaby", lists("x", "y", ""), matches(1, 3), false}, {"xaby", lists("x", "z"), matches(1, 3), false}, {"xaby", lists("z", "y"), matches(1, 3), false}, {"xaby", lists("x", "yz"), matches(1, 3), false}, {"xaby", lists("x", ""), matches(1, 3), false}, {"xaby", lists("xa", "y"), matches(1, 3), false}, {"xaby", lists("", "y"), matches(1, 3), false},
		{"abc", lists("abc"), nil, true}, {"", lists(""), nil, true}, {"", [][]byte{nil}, nil, true}, {"", nil, nil, false}, {"abc", nil, nil, false}, {"abc", lists("abd"), nil, false}, {"abc", lists("ab"), nil, false}, {"abc", lists("abcd"), nil, false}, {"abc", lists("abc", ""), nil, false},
		{"abc", lists("abc"), matches(0, 0, 1, 1, 3, 3), true}, {"abc", lists("", "abc"), matches(0, 0), false}, {"abc", lists("a", "c"), matches(0, 0, 1, 2, 2, 2), true}, {"abc", lists("", "c", ""), matches(0, 2, 3, 3), false}, {"abc", lists("", "", "", ""), matches(0, 1, 1, 2, 2, 3), true}, {"abc", lists("", ""), matches(0, 3), true},
		{"aaaa", lists("a", "a"), matches(1, 3), true}, {"aaaa", lists("", "aa"), matches(1, 3), true}, {"abab", lists("ab", ""), matches(0, 2), true}, // parts are told by what they make, not by where they stand
		{"abc", lists("", "", ""), matches(0, 2, 1, 3), false}, {"abab", lists("", "", ""), matches(2, 4, 0, 2), false}, {"abab", lists("", "", ""), matches(0, 2, 0, 2), false}, {"ab", lists("ab"), matches(1, 1, 1, 1), false}, {"ab", lists("ab"), []api.Found{{}}, false}, {"ab", lists("", "b"), []api.Found{found(0, 1), {}}, false}, {"ab", lists("ab"), matches(3, 3), false}, {"ab", lists("ab"), matches(-1, -1), false}, {"ab", lists("ab", ""), matches(2, 3), false}, {"ab", lists("ab"), matches(2, 1), false}, {"ab", lists("", ""), matches(0, math.MaxInt), false}, {"ab", lists("", ""), matches(math.MinInt, 2), false},
		{"a\u00e9b", lists("a\xc3", "b"), []api.Found{found(2, 3, 9, -9)}, true}, // further spans, and edges, play no part
	} {
		if got := audit.Rebuilt([]byte(c.b), c.parts, c.l); got != c.want {
			t.Errorf("%q of %q and %v: %v", c.b, c.parts, c.l, got)
		}
	}
}

// spans tells all lists of up to so many spans of places from least to most.
func spans(least, most, count int, tell func(l []api.Found)) {
	var grow func(l []api.Found)
	grow = func(l []api.Found) {
		tell(l)
		if len(l) == count {
			return
		}
		for start := least; start <= most; start++ {
			for end := least; end <= most; end++ {
				grow(append(slices.Clip(l), found(start, end)))
			}
		}
	}
	grow(nil)
}

// slowOrdered is P24.1, word by word.
func slowOrdered(l []api.Found, size int) bool {
	ok := true
	for i, f := range l {
		s := f.Spans[0]
		ok = ok && 0 <= s.Start && s.Start <= size && 0 <= s.End && s.End <= size && s.Start <= s.End
		ok = ok && (i == 0 || s.Start >= l[i-1].Spans[0].End)
		for _, other := range l[:i] {
			ok = ok && !(s.Start == s.End && s == other.Spans[0])
		}
	}
	return ok
}

// slowEdges is P24.2, word by word.
func slowEdges(b []byte, l []api.Found) bool {
	edge := func(at int) bool {
		return at == len(b) || slices.ContainsFunc(utf.Decode(b), func(i api.Item) bool { return i.Start == at || i.End == at })
	}
	for _, f := range l {
		for _, s := range f.Spans {
			if s.Start == -1 && s.End == -1 {
				continue
			}
			if !edge(s.Start) || !edge(s.End) || s.Start > s.End {
				return false
			}
		}
	}
	return true
}

func TestReckonedOtherwise(t *testing.T) { // P24.1 to P24.3
	subjects := []string{"", "ab", "\u00e9", "a\xffb", "a\u00e9", "\xe2\x82a", "aaa"}
	spans(-2, 4, 3, func(l []api.Found) {
		for _, text := range subjects {
			b := []byte(text)
			ordered := slowOrdered(l, len(b))
			if got := audit.Ordered(l, len(b)); got != ordered {
				t.Fatalf("%v in %d: %v", l, len(b), got)
			}
			if got := audit.Edges(b, l); got != slowEdges(b, l) {
				t.Fatalf("%v in %q: %v", l, text, got)
			}
			if !ordered {
				if audit.Rebuilt(b, [][]byte{b}, l) {
					t.Fatalf("%q is rebuilt of itself and %v", text, l)
				}
				continue
			}
			var parts [][]byte
			end := 0
			for _, f := range l {
				if s := f.Spans[0]; s.Start < s.End {
					parts = append(parts, b[end:s.Start])
					end = s.End
				}
			}
			parts = append(parts, b[end:])
			if !audit.Rebuilt(b, parts, l) || audit.Rebuilt(b, parts[1:], l) || audit.Rebuilt(b, append(slices.Clone(parts), nil), l) {
				t.Fatalf("%q of %q and %v", text, parts, l)
			}
			for i := range parts {
				wrong := slices.Clone(parts)
				wrong[i] = append([]byte("x"), wrong[i]...)
				if audit.Rebuilt(b, wrong, l) {
					t.Fatalf("%q is rebuilt of %q and %v", text, wrong, l)
				}
			}
		}
	})
}

func TestNothingChanges(t *testing.T) { // Memory
	b := []byte("xaby|room")
	parts := lists("x", "y", "behind")
	l := []api.Found{found(1, 3, 2, 3), found(9, 9)}
	before := fmt.Sprint(b, parts, l)
	audit.Ordered(l[:1], 4)
	audit.Edges(b[:4], l[:1])
	if !audit.Rebuilt(b[:4], parts[:2], l[:1]) {
		t.Error("not rebuilt")
	}
	if fmt.Sprint(b, parts, l) != before {
		t.Error("what is handed in has changed")
	}
}

func TestLongOnes(t *testing.T) { // Ends
	const n = 200_000
	b := []byte(strings.Repeat("a,", n))
	var l []api.Found
	var parts [][]byte
	for i := range n {
		l = append(l, found(2*i+1, 2*i+2))
		parts = append(parts, b[2*i:2*i+1])
	}
	parts = append(parts, nil)
	if !audit.Ordered(l, len(b)) || !audit.Edges(b, l) || !audit.Rebuilt(b, parts, l) {
		t.Error("long ones are not right")
	}
	great := bytes.Repeat([]byte("a"), 1<<20)
	for i := range parts { // far more bytes than could be laid together
		parts[i] = great
	}
	if audit.Rebuilt(b, parts, l) {
		t.Error("long ones are rebuilt of other parts")
	}
}
