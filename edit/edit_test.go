package edit_test

import (
	"bytes"
	"fmt"
	"math"
	"slices"
	"strings"
	"testing"

	"rubricator/api"
	"rubricator/edit"
)

var none = api.Span{Start: -1, End: -1}

// found is a match, of spans that are two places each.
func found(places ...int) api.Found {
	var f api.Found
	for i := 0; i+1 < len(places); i += 2 {
		f.Spans = append(f.Spans, api.Span{Start: places[i], End: places[i+1]})
	}
	return f
}

func text(s string) edit.Part { return edit.Part{Text: []byte(s), A: -1} }

func group(a int) edit.Part { return edit.Part{A: a} }

// template is a template's parts, for three groups.
func template(t *testing.T, s string) []edit.Part {
	t.Helper()
	l, f := edit.Template([]byte(s), 3, []string{"", "n", "", ""})
	if f.Code != api.OK {
		t.Fatalf("%s: %v", s, f)
	}
	return l
}

func TestExpand(t *testing.T) { // P22.2
	for _, c := range []struct {
		l    []edit.Part
		b    string
		f    api.Found
		want string
	}{
		{template(t, "$2$1"), "ab", found(0, 2, 0, 1, 1, 2), "ba"}, {template(t, "$0-$$${n}"), "xaby", found(1, 3, 1, 2, 2, 3), "ab-$a"}, {template(t, "$1$1"), "ab", found(0, 2, 0, 2), "abab"}, {nil, "ab", found(0, 2), ""}, {template(t, "q"), "", api.Found{}, "q"}, {template(t, "a$1b"), "xy", found(0, 2, 1, 1), "ab"}, {template(t, "$0"), "", found(0, 0), ""},
		{template(t, "a$1b"), "xy", found(0, 2, -1, -1), "ab"}, {template(t, "a$1b"), "xy", found(0, 2), "ab"}, {template(t, "a$0b"), "xy", api.Found{}, "ab"},
		{template(t, "a$1b"), "xy", found(0, 2, 2, 1), "ab"}, {template(t, "a$1b"), "xy", found(0, 2, -1, 1), "ab"}, {template(t, "a$1b"), "xy", found(0, 2, 1, 3), "ab"}, {template(t, "a$1b"), "xy", found(0, 2, 3, 3), "ab"}, {template(t, "a$1b"), "xy", found(0, 2, 1, -1), "ab"}, {template(t, "a$1b"), "xy", found(0, 2, math.MinInt, math.MaxInt), "ab"}, {template(t, "a$1b"), "xy", found(0, 2, math.MaxInt, math.MaxInt), "ab"}, {template(t, "a$1b"), "xy", found(9, 9, 0, 2), "axyb"}, {template(t, "a$1b"), "xy", found(0, 2, 2, 2), "ab"},
		{[]edit.Part{text(""), text("a"), text("b"), group(0)}, "xy", found(0, 1), "abx"}, {[]edit.Part{group(-2), group(math.MinInt), group(math.MaxInt), group(1)}, "xy", found(0, 1), ""}, {[]edit.Part{{Text: []byte("q"), A: 0}, {Text: []byte("q"), A: 7}, {Text: []byte("q"), A: -2}}, "xy", found(0, 1), "x"},
	} {
		if got := edit.Expand(c.l, []byte(c.b), c.f); string(got) != c.want {
			t.Errorf("%v over %q with %v: %q, want %q", c.l, c.b, c.f, got, c.want)
		}
	}
}

func TestReplace(t *testing.T) { // P22.3
	for _, c := range []struct {
		b    string
		l    []api.Found
		with string
		want string
	}{
		{"xaby", []api.Found{found(1, 3, 1, 2, 2, 3)}, "$2-$$${n}$$", "xb-$a$y"}, {"a12b", []api.Found{found(1, 3, 1, 2, 2, 3)}, "$2$1", "a21b"}, {"abc", nil, "$1", "abc"}, {"", nil, "$1", ""}, {"", []api.Found{found(0, 0)}, "x$0", "x"}, {"abc", []api.Found{found(0, 3)}, "", ""}, {"abc", []api.Found{found(0, 1), found(2, 3)}, "-", "-b-"}, {"abc", []api.Found{found(0, 1), found(1, 2), found(2, 3)}, "<$0>", "<a><b><c>"}, {"ab", []api.Found{found(0, 0), found(1, 1), found(2, 2)}, "-", "-a-b-"}, {"ab", []api.Found{found(0, 1), found(1, 1), found(1, 1), found(1, 2)}, "-", "----"}, {"abc", []api.Found{found(1, 2, -1, -1, 0, 3)}, "[$1$2]", "a[abc]c"}, {"abc", []api.Found{found(0, 1, 2, 3), found(1, 2)}, "$1", "cc"}, {"a\xffb", []api.Found{found(1, 2)}, "$0$0", "a\xff\xffb"},
	} {
		if got, e := edit.Replace([]byte(c.b), c.l, template(t, c.with)); e != api.OK || string(got) != c.want {
			t.Errorf("%q, %v by %s: %q, %v, want %q", c.b, c.l, c.with, got, e, c.want)
		}
	}
}

func TestMatchesThatMayNotBe(t *testing.T) { // P22.3
	for what, l := range map[string][]api.Found{
		"no span": {{}}, "no span, later": {found(0, 1), {}}, "an empty list of spans": {{Spans: []api.Span{}}}, "none": {found(-1, -1)}, "falling": {found(2, 1)}, "ahead of all": {found(-1, 1)}, "behind all": {found(1, 4)}, "behind all, empty": {found(4, 4)}, "one over the other": {found(0, 2), found(1, 3)}, "the wrong way round": {found(2, 3), found(1, 2)}, "an empty one within": {found(0, 2), found(1, 1)}, "one ahead of the last but one": {found(1, 2), found(3, 3), found(2, 3)}, "huge": {found(math.MinInt, math.MaxInt)}, "huge, empty": {found(math.MaxInt, math.MaxInt)}, "the same twice": {found(0, 1), found(0, 1)},
		"a group falls": {found(0, 1, 2, 1)}, "a group ahead": {found(0, 1, -1, 1)}, "a group behind": {found(0, 1, 2, 4)}, "a group far behind": {found(0, 1, 4, 4)}, "half of none": {found(0, 1, 0, -1)}, "less than none": {found(0, 1, -2, -2)}, "a later group": {found(0, 1, -1, -1, 3, 3, 3, 2)}, "a later match's group": {found(0, 1), found(1, 2, 0, 9)}, "a huge group": {found(0, 1, math.MinInt, math.MaxInt)},
	} {
		if got, e := edit.Replace([]byte("abc"), l, template(t, "-")); e != api.ErrArg || len(got) != 0 {
			t.Errorf("%s: %q, %v", what, got, e)
		}
	}
	if _, e := edit.Replace(nil, []api.Found{found(0, 1)}, nil); e != api.ErrArg {
		t.Errorf("in no bytes: %v", e)
	}
}

func TestSplit(t *testing.T) { // P22.3
	for _, c := range []struct {
		b    string
		l    []api.Span
		want []string
	}{
		{"xaby", []api.Span{{Start: 1, End: 3}}, []string{"x", "y"}}, {"abc", nil, []string{"abc"}}, {"", nil, []string{""}}, {"", []api.Span{{}}, []string{"", ""}}, {"abc", []api.Span{{Start: 0, End: 3}}, []string{"", ""}}, {"abc", []api.Span{{Start: 0, End: 1}, {Start: 2, End: 3}}, []string{"", "b", ""}}, {"abc", []api.Span{{Start: 1, End: 1}, {Start: 1, End: 1}, {Start: 1, End: 2}}, []string{"a", "", "", "c"}}, {"abc", []api.Span{{Start: 3, End: 3}}, []string{"abc", ""}}, {"a\xffb", []api.Span{{Start: 1, End: 2}}, []string{"a", "b"}},
	} {
		got, e := edit.Split([]byte(c.b), c.l)
		if e != api.OK || !slices.EqualFunc(got, c.want, func(a []byte, b string) bool { return string(a) == b }) {
			t.Errorf("%q, %v: %q, %v, want %q", c.b, c.l, got, e, c.want)
		}
	}
	for what, l := range map[string][]api.Span{
		"none": {none}, "falling": {{Start: 2, End: 1}}, "ahead": {{Start: -1, End: 1}}, "behind": {{Start: 2, End: 4}}, "far behind": {{Start: 4, End: 4}}, "the wrong way round": {{Start: 2, End: 3}, {Start: 1, End: 2}}, "one over the other": {{Start: 0, End: 2}, {Start: 1, End: 3}}, "an empty one within": {{Start: 0, End: 2}, {Start: 1, End: 1}}, "huge": {{Start: math.MinInt, End: math.MaxInt}}, "a later one": {{Start: 0, End: 0}, {Start: 3, End: 3}, none},
	} {
		if got, e := edit.Split([]byte("abc"), l); e != api.ErrArg || len(got) != 0 {
			t.Errorf("%s: %q, %v", what, got, e)
		}
	}
}

// spans tells all lists of up to so many spans, of places from one to below another.
func spans(least, most, count int, tell func(l []api.Span)) {
	var grow func(l []api.Span)
	grow = func(l []api.Span) {
		tell(l)
		if len(l) == count {
			return
		}
		for from := least; from < most; from++ {
			for to := least; to < most; to++ {
				grow(append(slices.Clone(l), api.Span{Start: from, End: to}))
			}
		}
	}
	grow(nil)
}

func TestReckonedOtherwise(t *testing.T) { // P22.3, P22.4: spans may be, if their places, one behind the other, rise
	const b = "abcd"
	with := []edit.Part{text("<"), group(0), text("|"), group(1), text(">")}
	spans(-1, 6, 3, func(l []api.Span) {
		places := []int{0}
		var matches []api.Found
		var old []string
		for i, s := range l {
			places = append(places, s.Start, s.End)
			matches = append(matches, api.Found{Spans: []api.Span{s, {Start: i, End: i + 1}}})
		}
		places = append(places, len(b))
		parts, e := edit.Split([]byte(b), l)
		replaced, e2 := edit.Replace([]byte(b), matches, with)
		if !slices.IsSorted(places) {
			if e != api.ErrArg || e2 != api.ErrArg || len(parts) > 0 || len(replaced) > 0 {
				t.Fatalf("%v: %q, %v, %q, %v", l, parts, e, replaced, e2)
			}
			return
		}
		var whole, want strings.Builder
		for i, part := range parts {
			whole.Write(part)
			want.Write(part)
			if i < len(l) {
				bytes := b[l[i].Start:l[i].End]
				old = append(old, bytes)
				whole.WriteString(bytes)
				fmt.Fprintf(&want, "<%s|%c>", bytes, b[i])
			}
		}
		if e != api.OK || len(parts) != len(l)+1 || whole.String() != b {
			t.Fatalf("Split at %v: %q, with %q %q, %v", l, parts, old, whole.String(), e)
		}
		if e2 != api.OK || string(replaced) != want.String() {
			t.Fatalf("Replace of %v: %q, want %q, %v", l, replaced, want.String(), e2)
		}
	})
}

func TestMemory(t *testing.T) { // Memory
	room := []byte("abcREST")
	b := room[:3]
	l := []api.Found{found(0, 1, 1, 2), found(2, 2)}
	with := []edit.Part{text("-"), group(0), group(1)}
	cuts := []api.Span{{Start: 1, End: 1}, {Start: 2, End: 2}}
	before := fmt.Sprint(room, l, with, cuts)
	replaced, _ := edit.Replace(b, l, with)
	whole, _ := edit.Replace(b, nil, with)
	expanded := edit.Expand(with, b, l[0])
	alone := edit.Expand([]edit.Part{group(0)}, b, found(0, 3))
	one := edit.Expand(with[:1], b, found())
	parts, _ := edit.Split(b, cuts)
	for _, answer := range [][]byte{replaced, whole, expanded, alone, one} {
		spoil(answer)
	}
	for i, want := range []string{"a", "b", "c"} {
		if string(parts[i]) != want {
			t.Errorf("parts share memory: %q", parts)
		}
		spoil(parts[i])
	}
	if fmt.Sprint(room, l, with, cuts) != before {
		t.Error("an answer shares memory with an argument")
	}
}

// spoil writes over bytes, spare room too.
func spoil(b []byte) {
	b = b[:cap(b)]
	for i := range b {
		b[i] = 'X'
	}
}

func TestLongOnes(t *testing.T) { // Ends
	const n = 200_000
	b := bytes.Repeat([]byte("ab"), n)
	var l []api.Found
	var cuts []api.Span
	for i := range n {
		l = append(l, found(2*i, 2*i+1))
		cuts = append(cuts, l[i].Spans[0])
	}
	if got, e := edit.Replace(b, l, template(t, "$0$0")); e != api.OK || !bytes.Equal(got, bytes.Repeat([]byte("aab"), n)) {
		t.Errorf("Replace: %d bytes, %v", len(got), e)
	}
	if got, e := edit.Split(b, cuts); e != api.OK || len(got) != n+1 {
		t.Errorf("Split: %d parts, %v", len(got), e)
	}
	if got, f := edit.Template(bytes.Repeat([]byte("a$$${n}"), n), 1, []string{"", "n"}); f.Code != api.OK || len(got) != 2*n {
		t.Errorf("Template: %d parts, %v", len(got), f)
	}
	if _, f := edit.Template(bytes.Repeat([]byte("${"), n), 1, nil); f != (api.Fault{Code: api.ErrTemplate}) {
		t.Errorf("Template: %v", f)
	}
}
