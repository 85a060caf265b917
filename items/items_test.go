package items_test

import (
	"bytes"
	"math"
	"slices"
	"strings"
	"testing"

	"rubricator/api"
	"rubricator/items"
	"rubricator/norm"
	"rubricator/props"
	"rubricator/utf"
)

// subject is that of a text, which must have one.
func subject(t *testing.T, x *props.Tables, text string, canon bool) *items.Text {
	t.Helper()
	s, e := items.New(x, []byte(text), canon)
	if e != api.OK || s == nil {
		t.Fatalf("New(%x, %v) = %v, %v", text, canon, s, e)
	}
	return s
}

// texts tells all texts of up to so many parts.
func texts(parts []string, most int, tell func(text string)) {
	var grow func(text string, n int)
	grow = func(text string, n int) {
		tell(text)
		if n == most {
			return
		}
		for _, p := range parts {
			grow(text+p, n+1)
		}
	}
	grow("", 0)
}

// mixed has letters, marks of several classes, what is made of others, and malformed parts.
func mixed() []string {
	return []string{"a", "\u0301", "\u0323", "\u0338", "\u00e9", "\u1e69", "\u0344", "\ud55c", "\xff", "\xe2\x82"}
}

func TestNew(t *testing.T) { // P12.1
	x := props.Load()
	for _, c := range []struct {
		text  string
		canon bool
		want  []api.Item
	}{
		{"", false, nil}, {"", true, nil},
		{"ab", false, []api.Item{{R: 'a', Start: 0, End: 1}, {R: 'b', Start: 1, End: 2}}},
		{"\u00e9", false, []api.Item{{R: 0xe9, Start: 0, End: 2}}},
		{"\u00e9", true, []api.Item{{R: 0x65, Start: 0, End: 2}, {R: 0x301, Start: 0, End: 2}}},
		{"a\u0301\u0323", false, []api.Item{{R: 'a', Start: 0, End: 1}, {R: 0x301, Start: 1, End: 3}, {R: 0x323, Start: 3, End: 5}}},
		{"a\u0301\u0323", true, []api.Item{{R: 'a', Start: 0, End: 1}, {R: 0x323, Start: 3, End: 5}, {R: 0x301, Start: 1, End: 3}}},
		{"\u1e63\u0307\u0338", true, []api.Item{{R: 's', Start: 0, End: 3}, {R: 0x338, Start: 5, End: 7}, {R: 0x323, Start: 0, End: 3}, {R: 0x307, Start: 3, End: 5}}},
		{"\ud55c", true, []api.Item{{R: 0x1112, Start: 0, End: 3}, {R: 0x1161, Start: 0, End: 3}, {R: 0x11ab, Start: 0, End: 3}}},
		{"\xff\xe2\x82A", true, []api.Item{{R: 0xfffd, Start: 0, End: 1}, {R: 0xfffd, Start: 1, End: 3}, {R: 'A', Start: 3, End: 4}}},
		{"\xff\xe2\x82A", false, []api.Item{{R: 0xfffd, Start: 0, End: 1}, {R: 0xfffd, Start: 1, End: 3}, {R: 'A', Start: 3, End: 4}}},
	} {
		s := subject(t, x, c.text, c.canon)
		if got := s.Items(); !slices.Equal(got, c.want) {
			t.Errorf("Items of %x, %v: %x, want %x", c.text, c.canon, got, c.want)
		}
	}
	if s, e := items.New(x, nil, true); e != api.OK || len(s.Items()) != 0 || len(s.Runes()) != 0 || len(s.Bytes()) != 0 {
		t.Errorf("New of nil bytes: %v, %v", s, e)
	}
}

func TestItemsRunesBytes(t *testing.T) { // P12.1
	x := props.Load()
	texts(mixed(), 4, func(text string) {
		decoded := utf.Decode([]byte(text))
		for canon, want := range map[bool][]api.Item{false: decoded, true: norm.Items(x, decoded)} {
			s := subject(t, x, text, canon)
			if got := s.Items(); !slices.Equal(got, want) {
				t.Fatalf("Items of %x, %v: %x, want %x", text, canon, got, want)
			}
			runes := s.Runes()
			if len(runes) != len(want) {
				t.Fatalf("Runes of %x, %v: %x", text, canon, runes)
			}
			for i, y := range want {
				if runes[i] != y.R {
					t.Fatalf("Runes of %x, %v: %x", text, canon, runes)
				}
			}
			if got := s.Bytes(); string(got) != text {
				t.Fatalf("Bytes of %x, %v: %x", text, canon, got)
			}
		}
	})
}

func TestSpan(t *testing.T) { // P12.2
	x := props.Load()
	none := api.Span{Start: -1, End: -1}
	for _, c := range []struct {
		text     string
		canon    bool
		from, to int
		want     api.Span
	}{
		{"x\u00e9", false, 0, 2, api.Span{Start: 0, End: 3}}, {"x\u00e9", false, 1, 2, api.Span{Start: 1, End: 3}}, {"x\u00e9", false, 1, 1, api.Span{Start: 1, End: 1}}, {"x\u00e9", false, 2, 2, api.Span{Start: 3, End: 3}},
		{"x\u00e9", true, 1, 2, api.Span{Start: 1, End: 3}}, {"x\u00e9", true, 2, 3, api.Span{Start: 1, End: 3}}, {"x\u00e9", true, 2, 2, api.Span{Start: 1, End: 1}}, {"x\u00e9", true, 3, 3, api.Span{Start: 3, End: 3}},
		{"a\u0301\u0323", true, 1, 2, api.Span{Start: 3, End: 5}}, {"a\u0301\u0323", true, 2, 3, api.Span{Start: 1, End: 3}}, {"a\u0301\u0323", true, 1, 3, api.Span{Start: 1, End: 5}}, {"a\u0301\u0323", true, 0, 2, api.Span{Start: 0, End: 5}},
		{"a\u0301\u0323", true, 1, 1, api.Span{Start: 1, End: 1}}, {"a\u0301\u0323", true, 2, 2, api.Span{Start: 1, End: 1}}, {"a\u0301\u0323", true, 3, 3, api.Span{Start: 5, End: 5}},
		{"", false, 0, 0, api.Span{}}, {"", false, 0, 1, none}, {"", false, -1, 0, none}, {"", true, 1, 1, none},
		{"ab", false, 2, 1, none}, {"ab", false, 0, 3, none}, {"ab", false, 3, 3, none}, {"ab", false, -1, 1, none}, {"ab", false, -1, -1, none}, {"ab", false, 1, -1, none},
		{"ab", true, math.MinInt, math.MaxInt, none}, {"ab", true, math.MaxInt, math.MinInt, none}, {"ab", true, math.MaxInt, math.MaxInt, none}, {"ab", true, 0, math.MaxInt, none}, {"ab", true, math.MinInt, 0, none},
	} {
		if got := subject(t, x, c.text, c.canon).Span(c.from, c.to); got != c.want {
			t.Errorf("%x, %v: Span(%d, %d) = %v, want %v", c.text, c.canon, c.from, c.to, got, c.want)
		}
	}
}

// wantSpan is the chapter's words, by sorting.
func wantSpan(l []api.Item, from, to, size int) api.Span {
	if !slices.IsSorted([]int{0, from, to, len(l)}) {
		return api.Span{Start: -1, End: -1}
	}
	starts := func(l []api.Item) []int {
		out := []int{size}
		for _, y := range l {
			out = append(out, y.Start)
		}
		slices.Sort(out)
		return out
	}
	if from == to {
		least := starts(l[from:])[0]
		return api.Span{Start: least, End: least}
	}
	var ends []int
	for _, y := range l[from:to] {
		ends = append(ends, y.End)
	}
	return api.Span{Start: starts(l[from:to])[0], End: slices.Max(ends)}
}

func TestEachSpan(t *testing.T) { // P12.2, P12.4
	x := props.Load()
	texts(mixed(), 3, func(text string) {
		edges := map[int]int{len(text): 1}
		for _, y := range utf.Decode([]byte(text)) {
			edges[y.Start]++
			edges[y.End]++
		}
		for _, canon := range []bool{false, true} {
			s := subject(t, x, text, canon)
			l := s.Items()
			for from := -2; from <= len(l)+2; from++ {
				for to := -2; to <= len(l)+2; to++ {
					got, want := s.Span(from, to), wantSpan(l, from, to, len(text))
					if got != want {
						t.Fatalf("%x, %v: Span(%d, %d) = %v, want %v", text, canon, from, to, got, want)
					}
					if got.Start >= 0 && (edges[got.Start] == 0 || edges[got.End] == 0 || got.Start > got.End) {
						t.Fatalf("%x, %v: Span(%d, %d) = %v: no edges", text, canon, from, to, got)
					}
				}
			}
		}
	})
}

func TestAfter(t *testing.T) { // P12.3
	x := props.Load()
	for _, c := range []struct {
		text     string
		canon    bool
		at, want int
	}{
		{"x\u00e9", true, 0, 0}, {"x\u00e9", true, 1, 1}, {"x\u00e9", true, 2, 3}, {"x\u00e9", true, 3, 3}, {"x\u00e9", true, 4, 3}, {"x\u00e9y", false, 2, 2}, {"x\u00e9y", false, 3, 2},
		{"a\u0301\u0323b", true, 1, 1}, {"a\u0301\u0323b", true, 2, 3}, {"a\u0301\u0323b", true, 3, 3}, {"a\u0301\u0323b", true, 5, 3}, {"a\u0301\u0323b", true, 6, 4}, {"a\u0301\u0323b", false, 3, 2},
		{"ab", false, -1, 0}, {"ab", false, math.MinInt, 0}, {"ab", false, 3, 2}, {"ab", false, math.MaxInt, 2}, {"", false, 0, 0}, {"", false, 1, 0}, {"", true, math.MaxInt, 0}, {"", true, math.MinInt, 0},
	} {
		if got := subject(t, x, c.text, c.canon).After(c.at); got != c.want {
			t.Errorf("%x, %v: After(%d) = %d, want %d", c.text, c.canon, c.at, got, c.want)
		}
	}
	texts(mixed(), 4, func(text string) {
		for _, canon := range []bool{false, true} {
			s := subject(t, x, text, canon)
			l := s.Items()
			for at := -1; at <= len(text)+1; at++ {
				want := len(l)
				for want > 0 && l[want-1].Start >= at {
					want--
				}
				if got := s.After(at); got != want {
					t.Fatalf("%x, %v: After(%d) = %d, want %d", text, canon, at, got, want)
				}
			}
		}
	})
}

func TestOneNFD(t *testing.T) { // P12.5
	x := props.Load()
	for _, l := range [][]string{
		{"\u00e9", "e\u0301"},
		{"\u212b", "\u00c5", "A\u030a"},
		{"\u1e69", "\u1e63\u0307", "s\u0323\u0307", "s\u0307\u0323"},
		{"\u01d6", "\u00fc\u0304", "u\u0308\u0304"},
		{"\u0344", "\u0308\u0301"},
		{"\ud55c", "\u1112\u1161\u11ab"},
		{"a\u0301\u0323\u0338", "\u00e1\u0338\u0323", "a\u0323\u0338\u0301"},
		{"\xff", "\xe2\x82", "\ufffd"},
	} {
		want := subject(t, x, l[0], true).Runes()
		for _, text := range l[1:] {
			if got := subject(t, x, text, true).Runes(); !slices.Equal(got, want) {
				t.Errorf("%x: %x; %x: %x", l[0], want, text, got)
			}
		}
		if got := subject(t, x, l[1], false).Runes(); slices.Equal(got, subject(t, x, l[0], false).Runes()) && l[0] != "\xff" {
			t.Errorf("%x and %x are the same without canon", l[0], l[1])
		}
	}
	first := map[string][]int{} // by NFD
	shared := 0
	texts([]string{"e", "\u0301", "\u0323", "\u00e9", "\u0308", "\u0344", "\u212b", "A", "\u030a"}, 4, func(text string) {
		var nfd strings.Builder
		for _, r := range norm.Runes(x, subject(t, x, text, false).Runes()) {
			nfd.WriteRune(rune(r))
		}
		got := subject(t, x, text, true).Runes()
		want, known := first[nfd.String()]
		if !known {
			first[nfd.String()] = got
			return
		}
		shared++
		if !slices.Equal(got, want) {
			t.Fatalf("%x: %x, another one with its NFD: %x", text, got, want)
		}
	})
	if shared == 0 {
		t.Error("no two texts have one NFD")
	}
}

func TestTablesThatNoCallMade(t *testing.T) { // P12.1, Objects
	for name, x := range map[string]*props.Tables{"nil": nil, "plain": {}} {
		for _, b := range [][]byte{nil, {}, []byte("a\u00e9\xff")} {
			for _, canon := range []bool{false, true} {
				if s, e := items.New(x, b, canon); s != nil || e != api.ErrNil {
					t.Errorf("%s tables: New(%x, %v) = %v, %v", name, b, canon, s, e)
				}
			}
		}
	}
}

func TestSubjectsThatNoCallMade(t *testing.T) { // Objects
	for name, s := range map[string]*items.Text{"nil": nil, "plain": {}} {
		if s.Runes() != nil || s.Items() != nil || s.Bytes() != nil {
			t.Errorf("%s subject: %v, %v, %v", name, s.Runes(), s.Items(), s.Bytes())
		}
		for _, at := range []int{math.MinInt, -1, 0, 1, math.MaxInt} {
			if got := s.After(at); got != 0 {
				t.Errorf("%s subject: After(%d) = %d", name, at, got)
			}
			for _, to := range []int{math.MinInt, -1, 0, 1, math.MaxInt} {
				if got := s.Span(at, to); got != (api.Span{}) {
					t.Errorf("%s subject: Span(%d, %d) = %v", name, at, to, got)
				}
			}
		}
	}
}

func TestMemory(t *testing.T) { // Memory
	x := props.Load()
	const text = "a\u0301\u0323\u00e9\u00e9"
	room := []byte(text)
	for _, canon := range []bool{false, true} {
		s, _ := items.New(x, room[:7], canon) // the last item stands behind the list's end, and plays no part
		if string(room) != text {
			t.Fatalf("what is handed in has become %x", room)
		}
		wantItems, wantRunes := s.Items(), s.Runes()
		clear(room)
		spoil(s)
		if !slices.Equal(s.Items(), wantItems) || !slices.Equal(s.Runes(), wantRunes) || string(s.Bytes()) != text[:7] {
			t.Errorf("a subject shares memory with an argument or an answer: %x, %x, %x", s.Items(), s.Runes(), s.Bytes())
		}
		if s.Span(1, 1) != (api.Span{Start: 1, End: 1}) || s.After(7) != len(wantItems) {
			t.Error("a subject's places have changed")
		}
		room = []byte(text)
	}
}

// spoil writes over all that a subject answers, spare room too.
func spoil(s *items.Text) {
	l, r, b := s.Items(), s.Runes(), s.Bytes()
	clear(l[:cap(l)])
	clear(r[:cap(r)])
	clear(b[:cap(b)])
}

func TestAnswersAreApart(t *testing.T) { // Memory
	s := subject(t, props.Load(), "a\u0301\u0323", true)
	l, r, b := s.Items(), s.Runes(), s.Bytes()
	wantItems, wantRunes, wantBytes := slices.Clone(l), slices.Clone(r), bytes.Clone(b)
	spoil(s)
	if !slices.Equal(l, wantItems) || !slices.Equal(r, wantRunes) || !bytes.Equal(b, wantBytes) {
		t.Error("two answers share memory")
	}
}

func TestLongOnes(t *testing.T) { // Ends
	const n = 100_000
	text := "a" + strings.Repeat("\u0301", n) + strings.Repeat("\u0323", n) // as NFD the latter stand ahead
	s := subject(t, props.Load(), text, true)
	for at := 1; at <= 2*n; at++ {
		if got := s.Span(at, at); got != (api.Span{Start: max(1, 1+2*(at-1-n)), End: max(1, 1+2*(at-1-n))}) {
			t.Fatalf("Span(%d, %d) = %v", at, at, got)
		}
	}
	for at := range len(text) {
		want := 2*n + 1
		switch {
		case at <= 1:
			want = at
		case at <= 2*n-1:
			want = n + 1 + at/2
		}
		if got := s.After(at); got != want {
			t.Fatalf("After(%d) = %d, want %d", at, got, want)
		}
	}
	if got := s.Span(0, 2*n+1); got != (api.Span{Start: 0, End: len(text)}) {
		t.Errorf("Span of all = %v", got)
	}
}
