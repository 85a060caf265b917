package find_test

import (
	"slices"
	"strings"
	"testing"

	"rubricator/api"
	"rubricator/edit"
	"rubricator/find"
	"rubricator/items"
	"rubricator/norm"
	"rubricator/props"
	"rubricator/utf"
)

// texts tells all texts of up to so many parts.
func texts(parts []string, most int, tell func(text string)) {
	var grow func(text string, n int)
	grow = func(text string, n int) {
		tell(text)
		if n == most {
			return
		}
		for _, p := range parts {
			grow(text+p, n+1)
		}
	}
	grow("", 0)
}

func patterns() []string {
	return []string{"", "e", "e*", "e*?", "\u0301", "\u0323*", "(e)|\u0301", "(?<=e)", "(?=\u0301)", "\u00e9", ".\u0301", "[^e]", "\\X", "\\b{g}", "(.)\\1", "$|e", "(?<!e)\u0301*", "(?>\u0323*)\u0301"}
}

func parts() []string { return []string{"e", "\u0301", "\u0323", "\u00e9", "\u1e69", "\xff"} }

// slowAll is the chapter's words: places are reckoned from the items, not by Span and After.
func slowAll(x *props.Tables, p api.Prog, l []api.Item, size, most int, b api.Budget) ([]api.Result, int) {
	var runes []int
	for _, y := range l {
		runes = append(runes, y.R)
	}
	after := func(at int) int {
		place := 0
		for i, y := range l {
			if y.Start < at {
				place = i + 1
			}
		}
		return place
	}
	var out []api.Result
	for from := 0; from <= len(l) && (most < 0 || len(out) < most); {
		r := slowFirst(x, p, runes, from, b)
		if r.Kind != api.Match {
			return out, r.Kind
		}
		out = append(out, r)
		first, last := r.Caps[0], r.Caps[1]
		if first == last {
			start := size
			for _, y := range l[first:] {
				start = min(start, y.Start)
			}
			from = max(last+1, after(start+1))
			continue
		}
		end := 0
		for _, y := range l[first:last] {
			end = max(end, y.End)
		}
		from = max(last, after(end))
	}
	return out, api.NoMatch
}

// same tells whether two results are alike.
func same(a, b api.Result) bool {
	return a.Kind == b.Kind && a.Steps == b.Steps && slices.Equal(a.Caps, b.Caps)
}

// eachSearch tells programs with subjects, as they stand and as NFD.
func eachSearch(t *testing.T, x *props.Tables, tell func(pattern, text string, p api.Prog, s *items.Text)) {
	for _, o := range []api.Options{plain, canon} {
		for _, pattern := range patterns() {
			p := program(t, x, pattern, o)
			texts(parts(), 4, func(text string) {
				tell(pattern, text, p, subject(t, x, text, o.Canon))
			})
		}
	}
}

func TestReckonedOtherwise(t *testing.T) { // P21.1, P21.2
	x := props.Load()
	budgets := []api.Budget{much, {Steps: 7, Depth: 100}, {Steps: 100, Depth: 3}}
	eachSearch(t, x, func(pattern, text string, p api.Prog, s *items.Text) {
		for _, b := range budgets {
			for from := range len(s.Runes()) + 1 {
				r, e := find.First(x, p, s, from, b)
				if want := slowFirst(x, p, s.Runes(), from, b); e != api.OK || !same(r, want) {
					t.Fatalf("%s over %q from %d with %v: %v, %v, want %v", pattern, text, from, b, r, e, want)
				}
			}
			for _, most := range []int{-1, 2} {
				l, kind, e := find.All(x, p, s, most, b)
				want, wantKind := slowAll(x, p, s.Items(), len(text), most, b)
				if e != api.OK || kind != wantKind || !slices.EqualFunc(l, want, same) {
					t.Fatalf("%s over %q, %d with %v: %v, %d, %v, want %v, %d", pattern, text, most, b, l, kind, e, want, wantKind)
				}
			}
		}
	})
}

func TestApart(t *testing.T) { // P21.4, P5: in order, apart from one another, as places and as bytes
	x := props.Load()
	eachSearch(t, x, func(pattern, text string, p api.Prog, s *items.Text) {
		l, kind, e := find.All(x, p, s, -1, much)
		if e != api.OK || kind != api.NoMatch {
			t.Fatalf("%s over %q: %d, %v", pattern, text, kind, e)
		}
		place, byteEnd := -1, 0 // place: the first at which a match may not begin
		empty := -1             // the byte at which an empty match stands
		for _, r := range l {
			spans := find.Spans(s, r)
			if len(spans) != p.Groups+1 {
				t.Fatalf("%s over %q: %v has %v", pattern, text, r, spans)
			}
			first := spans[0]
			if r.Caps[0] <= place || r.Caps[1] < r.Caps[0] || first.Start < byteEnd || first.End < first.Start || first.End > len(text) || first.Start == empty {
				t.Fatalf("%s over %q: %v, bytes %v, is not apart: %v", pattern, text, r, first, l)
			}
			place, byteEnd = max(r.Caps[0], r.Caps[1]-1), first.End
			if first.Start == first.End {
				empty = first.Start
			}
		}
	})
}

func TestEquivalence(t *testing.T) { // P3
	x := props.Load()
	for _, pattern := range patterns() {
		p := program(t, x, pattern, canon)
		byNFD := map[string]api.Result{}
		shared := 0
		texts([]string{"e", "\u0301", "\u0323", "\u00e9", "\u1e63", "s", "\u1e69", "\u0307"}, 4, func(text string) {
			s := subject(t, x, text, true)
			r, e := find.First(x, p, s, 0, much)
			if e != api.OK || r.Kind == api.Exceeded {
				t.Fatalf("%s over %q: %v, %v", pattern, text, r, e)
			}
			edges := map[int]int{len(text): 1}
			decoded := utf.Decode([]byte(text))
			for _, y := range decoded {
				edges[y.Start]++
			}
			for _, span := range find.Spans(s, r) {
				if span != (api.Span{Start: -1, End: -1}) && (edges[span.Start] == 0 || edges[span.End] == 0 || span.Start > span.End) {
					t.Fatalf("%s over %q: %v", pattern, text, span)
				}
			}
			var nfd []rune
			for _, y := range norm.Items(x, decoded) {
				nfd = append(nfd, rune(y.R))
			}
			want, known := byNFD[string(nfd)]
			if !known {
				byNFD[string(nfd)] = r
				return
			}
			shared++
			if !same(r, want) {
				t.Fatalf("%s over %q: %v, another one with its NFD: %v", pattern, text, r, want)
			}
		})
		if shared == 0 {
			t.Error("no two texts have one NFD")
		}
	}
}

func TestEdited(t *testing.T) { // P5: what Replace leaves, and Split's parts with the matches, are the subject's
	x := props.Load()
	whole, _ := edit.Template([]byte("<$0>"), 0, nil)
	eachSearch(t, x, func(pattern, text string, p api.Prog, s *items.Text) {
		l, _, _ := find.All(x, p, s, -1, much)
		var matches []api.Found
		var firsts []api.Span
		for _, r := range l {
			matches = append(matches, api.Found{Spans: find.Spans(s, r)})
			firsts = append(firsts, find.Spans(s, r)[0])
		}
		replaced, e := edit.Replace(s.Bytes(), matches, whole)
		if e != api.OK || strings.NewReplacer("<", "", ">", "").Replace(string(replaced)) != text || len(replaced) != len(text)+2*len(l) {
			t.Fatalf("%s over %q: Replace of %v is %q, %v", pattern, text, matches, replaced, e)
		}
		parts, e := edit.Split(s.Bytes(), firsts)
		var joined strings.Builder
		for i, part := range parts {
			joined.Write(part)
			if i < len(firsts) {
				joined.WriteString(text[firsts[i].Start:firsts[i].End])
			}
		}
		if e != api.OK || len(parts) != len(firsts)+1 || joined.String() != text {
			t.Fatalf("%s over %q: Split at %v is %q, %v", pattern, text, firsts, parts, e)
		}
	})
}
