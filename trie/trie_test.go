package trie_test

import (
	"math"
	"slices"
	"testing"

	"rubricator/api"
	"rubricator/ranges"
	"rubricator/trie"
)

// wantGet is a code point's value by the chapter's words: the last entry that plays a part and has it tells.
func wantGet[T comparable](l []api.Entry, values []T, r int) (T, bool) {
	for _, e := range slices.Backward(l) {
		if r >= 0 && r <= api.MaxRune && e.Lo <= r && r <= e.Hi && e.Value >= 0 && e.Value < len(values) {
			return values[e.Value], true
		}
	}
	var none T
	return none, false
}

// near is the numbers at which entries begin and end, those beside them, and the edges of blocks of a power of two.
func near(l []api.Entry) []int {
	out := []int{math.MinInt, -1, 0, 1, 0xff, 0x100, 0xffff, 0x10000, api.MaxRune - 1, api.MaxRune, api.MaxRune + 1, math.MaxInt}
	for _, e := range l {
		out = append(out, e.Lo-1, e.Lo, e.Lo+1, e.Hi-1, e.Hi, e.Hi+1)
	}
	return out
}

// check holds Get and Ranges against the chapter's words at all of points.
func check[T comparable](t *testing.T, l []api.Entry, values []T, points []int) {
	t.Helper()
	x := trie.Build(l, values)
	if x == nil {
		t.Fatalf("Build(%v, %v) is nil", l, values)
	}
	for _, r := range points {
		got, ok := x.Get(r)
		want, has := wantGet(l, values, r)
		if ok != has || got != want {
			t.Fatalf("Build(%v, %v).Get(%#x) = %v, %v, want %v, %v", l, values, r, got, ok, want, has)
		}
	}
	for _, v := range values {
		set := x.Ranges(v)
		if !ranges.Can(set) {
			t.Fatalf("Build(%v, %v).Ranges(%v) = %v is no set", l, values, v, set)
		}
		for _, r := range points {
			if want, has := wantGet(l, values, r); ranges.Has(set, r) != (has && want == v) {
				t.Fatalf("Build(%v, %v).Ranges(%v) = %v, while the value of %#x is %v, %v", l, values, v, set, r, want, has)
			}
		}
	}
}

// singles is entries of all pairs of edges, rising and falling, with values that are places and that are none.
func singles() []api.Entry {
	edges := []int{math.MinInt, -1, 0, 3, 4, 0xff, 0x100, api.MaxRune, api.MaxRune + 1, math.MaxInt}
	var out []api.Entry
	for i, lo := range edges {
		for k, hi := range edges {
			out = append(out, api.Entry{Lo: lo, Hi: hi, Value: (i + 2*k) % 3})
		}
	}
	for _, value := range []int{-1, 3, math.MinInt, math.MaxInt} {
		out = append(out, api.Entry{Lo: 0, Hi: api.MaxRune, Value: value}, api.Entry{Lo: 4, Hi: 4, Value: value})
	}
	return out
}

// scattered is many entries over one another, the same ones each time.
func scattered(count, width int) []api.Entry {
	var out []api.Entry
	seed := uint32(1)
	next := func(below int) int {
		seed = seed*1664525 + 1013904223
		return int(seed>>8) % below
	}
	for range count {
		lo := next(width) - width/20
		out = append(out, api.Entry{Lo: lo, Hi: lo + next(width/8) - width/100, Value: next(6) - 1})
	}
	return out
}

func TestGet(t *testing.T) { // P4.1
	x := trie.Build([]api.Entry{{Lo: 0, Hi: 9, Value: 0}, {Lo: 5, Hi: 5, Value: 1}}, []string{"a", "b"})
	for r, want := range []string{"a", "a", "a", "a", "a", "b", "a", "a", "a", "a"} {
		if got, ok := x.Get(r); !ok || got != want {
			t.Errorf("Get(%d) = %q, %v", r, got, ok)
		}
	}
	for _, r := range []int{math.MinInt, -1, 10, 0x100, 0x109, 0x10005, api.MaxRune, api.MaxRune + 1, math.MaxInt} {
		if got, ok := x.Get(r); ok || got != "" {
			t.Errorf("Get(%#x) = %q, %v", r, got, ok)
		}
	}
}

func TestTwoEntries(t *testing.T) { // P4.1, P4.2
	values := []string{"a", "b", "c"}
	for _, x := range singles() {
		for _, y := range singles() {
			l := []api.Entry{x, y}
			check(t, l, values, near(l))
		}
	}
}

func TestManyEntries(t *testing.T) { // P4.1, P4.2, P4.3
	for count := range 60 {
		for _, width := range []int{200, 1000, 100000} {
			l := scattered(count, width)
			check(t, l, []int{7, 0, 7, 9}, near(l))
		}
	}
}

func TestEachCodePoint(t *testing.T) { // P4.1, P4.2, P4.3
	var points []int
	for r := range api.MaxRune + 1 {
		points = append(points, r)
	}
	check(t, []api.Entry{{Lo: -7, Hi: math.MaxInt, Value: 0}, {Lo: 0xd800, Hi: 0xdfff, Value: 1}, {Lo: 0x10000, Hi: 0x100ff, Value: 2}, {Lo: 0xe000, Hi: 0xffff, Value: 3}}, []string{"a", "b", "c"}, points)
	check(t, scattered(40, api.MaxRune), []uint8{1, 2, 3, 4}, points)
	var comb []api.Entry
	for r := range 0x300 {
		comb = append(comb, api.Entry{Lo: 2 * r, Hi: 2 * r, Value: r % 3})
	}
	check(t, comb, []string{"x", "y", "z"}, points[:0x700])
}

func TestEntriesThatPlayNoPart(t *testing.T) { // P4.1
	good := api.Entry{Lo: 2, Hi: 8, Value: 0}
	for _, bad := range []api.Entry{
		{Lo: 0, Hi: 9, Value: 1}, {Lo: 0, Hi: 9, Value: -1}, {Lo: 0, Hi: 9, Value: math.MinInt}, {Lo: 0, Hi: 9, Value: math.MaxInt},
		{Lo: 5, Hi: 4}, {Lo: math.MaxInt, Hi: math.MinInt}, {Lo: -9, Hi: -1}, {Lo: api.MaxRune + 1, Hi: math.MaxInt}, {Lo: math.MinInt, Hi: -1},
	} {
		for _, l := range [][]api.Entry{{bad, good}, {good, bad}, {bad, good, bad}} {
			x := trie.Build(l, []string{"a"})
			if got := x.Ranges("a"); !slices.Equal(got, []api.Range{{Lo: 2, Hi: 8}}) {
				t.Errorf("of %v: %v", l, got)
			}
			check(t, l, []string{"a"}, near(l))
		}
	}
}

func TestRanges(t *testing.T) { // P4.2
	for _, c := range []struct {
		l      []api.Entry
		values []string
		v      string
		want   []api.Range
	}{
		{[]api.Entry{{Lo: 0, Hi: 600, Value: 0}, {Lo: 5, Hi: 5, Value: 1}}, []string{"a", "b"}, "a", []api.Range{{Lo: 0, Hi: 4}, {Lo: 6, Hi: 600}}},
		{[]api.Entry{{Lo: 0, Hi: 600, Value: 0}, {Lo: 5, Hi: 5, Value: 1}}, []string{"a", "b"}, "b", []api.Range{{Lo: 5, Hi: 5}}},
		{[]api.Entry{{Lo: 0, Hi: 600, Value: 0}, {Lo: 5, Hi: 5, Value: 1}}, []string{"a", "b"}, "c", nil},
		{[]api.Entry{{Lo: 0, Hi: 600, Value: 0}, {Lo: 5, Hi: 5, Value: 1}}, []string{"a", "b"}, "", nil},
		{[]api.Entry{{Lo: 0, Hi: 4, Value: 0}, {Lo: 5, Hi: 5, Value: 1}, {Lo: 6, Hi: 9, Value: 0}}, []string{"a", "a"}, "a", []api.Range{{Lo: 0, Hi: 9}}},
		{[]api.Entry{{Lo: 6, Hi: 9, Value: 0}, {Lo: 0, Hi: 5, Value: 0}}, []string{"a"}, "a", []api.Range{{Lo: 0, Hi: 9}}},
		{[]api.Entry{{Lo: 0, Hi: 9, Value: 0}, {Lo: 0, Hi: 9, Value: 1}}, []string{"a", "b"}, "a", nil},
		{[]api.Entry{{Lo: math.MinInt, Hi: math.MaxInt, Value: 0}}, []string{""}, "", []api.Range{{Lo: 0, Hi: api.MaxRune}}},
		{[]api.Entry{{Lo: 0xd800, Hi: 0xdfff, Value: 0}}, []string{"s"}, "s", []api.Range{{Lo: 0xd800, Hi: 0xdfff}}},
		{[]api.Entry{{Lo: 0, Hi: 9, Value: 2}}, []string{"a", "b"}, "", nil},
		{[]api.Entry{{Lo: 0, Hi: 9}}, nil, "", nil},
	} {
		if got := trie.Build(c.l, c.values).Ranges(c.v); !slices.Equal(got, c.want) {
			t.Errorf("Build(%v, %v).Ranges(%q) = %v, want %v", c.l, c.values, c.v, got, c.want)
		}
	}
}

func TestRangesAreSetsOfWhatGetTells(t *testing.T) { // P4.2, P4.3
	values := []string{"a", "b", "a", "d", ""}
	for count := range 40 {
		l := scattered(count, 1200)
		x := trie.Build(l, values)
		sum := 0
		for _, v := range []string{"a", "b", "d", "", "none"} {
			set := x.Ranges(v)
			if !ranges.Can(set) {
				t.Fatalf("Ranges(%q) = %v is no set", v, set)
			}
			sum += ranges.Size(set)
			for r := range 1500 {
				got, ok := x.Get(r)
				if ranges.Has(set, r) != (ok && got == v) {
					t.Fatalf("of %v: %d in Ranges(%q), while Get tells %q, %v", l, r, v, got, ok)
				}
			}
		}
		var told []api.Range
		for _, e := range l {
			if e.Value >= 0 && e.Value < len(values) {
				told = append(told, api.Range{Lo: e.Lo, Hi: e.Hi})
			}
		}
		if sum != ranges.Size(told) {
			t.Fatalf("of %v: %d code points in all ranges, want %d", l, sum, ranges.Size(told))
		}
	}
}

type pair struct {
	name  string
	place [2]int
}

func TestAnyComparableValue(t *testing.T) { // P4.1, P4.2
	l := []api.Entry{{Lo: 0, Hi: 9, Value: 0}, {Lo: 5, Hi: 6, Value: 1}, {Lo: 20, Hi: 29, Value: 2}}
	one, two := new(int), new(int)
	sample(t, l, []int{0, -1, 0}, 0)
	sample(t, l, []bool{false, true, false}, false)
	sample(t, l, []float64{0, 1, math.Copysign(0, -1)}, 0)
	sample(t, l, []*int{one, two, one}, one)
	sample(t, l, []pair{{"a", [2]int{1, 2}}, {"a", [2]int{2, 1}}, {"a", [2]int{1, 2}}}, pair{"a", [2]int{1, 2}})
	sample(t, l, []any{1, "x", 1}, any(1))
	sample(t, l, []any{nil, 0, nil}, nil)
	sample(t, l, []error{api.ErrArg, api.ErrNil, api.ErrArg}, error(api.ErrArg))
	if got := trie.Build(l, []struct{}{{}, {}, {}}).Ranges(struct{}{}); !slices.Equal(got, []api.Range{{Lo: 0, Hi: 9}, {Lo: 20, Hi: 29}}) {
		t.Errorf("of empty structs: %v", got)
	}
}

// sample asks for values of which the first one is the third one, too, and not the second one.
func sample[T comparable](t *testing.T, l []api.Entry, values []T, first T) {
	t.Helper()
	check(t, l, values, near(l))
	if got := trie.Build(l, values).Ranges(first); !slices.Equal(got, []api.Range{{Lo: 0, Hi: 4}, {Lo: 7, Hi: 9}, {Lo: 20, Hi: 29}}) {
		t.Errorf("Ranges(%v) = %v", first, got)
	}
}

// An interface may hold what == panics at.
func TestValuesThatCannotBeCompared(t *testing.T) {
	l := []api.Entry{{Lo: 0, Hi: 9, Value: 0}, {Lo: 5, Hi: 6, Value: 1}, {Lo: 8, Hi: 8, Value: 2}}
	x := trie.Build(l, []any{[]int{1}, 1, map[int]int{}})
	if got := x.Ranges([]int{1}); len(got) != 0 {
		t.Errorf("Ranges of a list = %v", got)
	}
	if got := x.Ranges(1); !slices.Equal(got, []api.Range{{Lo: 5, Hi: 6}}) {
		t.Errorf("Ranges(1) = %v", got)
	}
	if got, ok := x.Get(0); !ok || !slices.Equal(got.([]int), []int{1}) {
		t.Errorf("Get(0) = %v, %v", got, ok)
	}
	if got, ok := trie.Build(l, []float64{math.NaN()}).Get(0); !ok || !math.IsNaN(got) {
		t.Errorf("Get(0) = %v, %v", got, ok)
	}
}

func TestTriesOfNothing(t *testing.T) { // rule Objects
	tries := map[string]*trie.Trie[string]{
		"nil": nil, "plain": {}, "new": new(trie.Trie[string]),
		"of nothing":         trie.Build[string](nil, nil),
		"of empty lists":     trie.Build([]api.Entry{}, []string{}),
		"without entries":    trie.Build(nil, []string{"a", ""}),
		"without values":     trie.Build([]api.Entry{{Lo: 0, Hi: 9}}, []string(nil)),
		"of what plays none": trie.Build([]api.Entry{{Lo: 9, Hi: 0}, {Lo: 0, Hi: 9, Value: 2}, {Lo: -9, Hi: -1}}, []string{"a", ""}),
	}
	for name, x := range tries {
		for _, r := range near(nil) {
			if got, ok := x.Get(r); ok || got != "" {
				t.Errorf("%s: Get(%d) = %q, %v", name, r, got, ok)
			}
		}
		for _, v := range []string{"", "a"} {
			if got := x.Ranges(v); len(got) != 0 {
				t.Errorf("%s: Ranges(%q) = %v", name, v, got)
			}
		}
		if made := name != "nil"; made != (x != nil) {
			t.Errorf("%s: %v", name, x)
		}
	}
	var plain trie.Trie[int]
	if got, ok := plain.Get(0); ok || got != 0 || len(plain.Ranges(0)) != 0 {
		t.Errorf("plain: Get(0) = %v, %v", got, ok)
	}
}

func TestArgumentsStayAndAnswersAreNew(t *testing.T) {
	entries := []api.Entry{{Lo: 5, Hi: 9, Value: 0}, {Lo: -1, Hi: 20, Value: 1}, {Lo: 7, Hi: 7, Value: 0}, {Lo: 9, Hi: 3, Value: 5}}
	values := []string{"a", "b", "c"}
	l, names := slices.Clone(entries), slices.Clone(values)
	x := trie.Build(l[:3], names[:2])
	if !slices.Equal(l, entries) || !slices.Equal(names, values) {
		t.Fatalf("Build has changed its arguments: %v, %v", l, names)
	}
	clear(l)
	clear(names)
	want := []api.Range{{Lo: 0, Hi: 6}, {Lo: 8, Hi: 20}}
	for range 2 {
		got := x.Ranges("b")
		if !slices.Equal(got, want) {
			t.Fatalf("Ranges = %v, want %v", got, want)
		}
		clear(got[:cap(got)])
	}
	if v, ok := x.Get(7); !ok || v != "a" {
		t.Errorf("Get(7) = %q, %v", v, ok)
	}
}

func TestLongLists(t *testing.T) {
	var nested, single []api.Entry
	for i := range 1 << 19 {
		nested = append(nested, api.Entry{Lo: i, Hi: api.MaxRune - i, Value: i % 2})
		single = append(single, api.Entry{Lo: 2 * i, Hi: 2 * i, Value: i % 2})
	}
	values := []string{"a", "b"}
	x := trie.Build(nested, values)
	for _, r := range []int{0, 1, 2, 1<<19 - 2, 1<<19 - 1, 1 << 19, api.MaxRune - 1, api.MaxRune} {
		want := values[min(r, api.MaxRune-r, 1<<19-1)%2]
		if got, ok := x.Get(r); !ok || got != want {
			t.Errorf("Get(%#x) = %q, %v", r, got, ok)
		}
	}
	slices.Reverse(nested)
	if got := trie.Build(nested, values).Ranges("a"); !slices.Equal(got, []api.Range{{Lo: 0, Hi: api.MaxRune}}) {
		t.Errorf("the last one goes over all: %d ranges", len(got))
	}
	if got := trie.Build(single, values).Ranges("b"); len(got) != 1<<18 {
		t.Errorf("%d ranges", len(got))
	}
}
