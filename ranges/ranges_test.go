package ranges_test

import (
	"math"
	"slices"
	"testing"

	"rubricator/api"
	"rubricator/ranges"
)

var all = []api.Range{{Lo: 0, Hi: api.MaxRune}}

// means tells by the chapter's words whether r is in what a list means.
func means(l []api.Range, r int) bool {
	return r >= 0 && r <= api.MaxRune && slices.ContainsFunc(l, func(x api.Range) bool { return x.Lo <= r && r <= x.Hi })
}

// isSet tells by the chapter's words whether a list is a set.
func isSet(l []api.Range) bool {
	for i, x := range l {
		if x.Lo < 0 || x.Hi > api.MaxRune || x.Lo > x.Hi {
			return false
		}
		if i > 0 && (x.Lo <= l[i-1].Hi || x.Lo == l[i-1].Hi+1) {
			return false
		}
	}
	return true
}

// near is the numbers at which one of the lists may change its mind, and those beside them.
func near(lists ...[]api.Range) []int {
	out := []int{math.MinInt, -1, 0, 1, api.MaxRune - 1, api.MaxRune, api.MaxRune + 1, math.MaxInt}
	for _, l := range lists {
		for _, x := range l {
			out = append(out, x.Lo-1, x.Lo, x.Lo+1, x.Hi-1, x.Hi, x.Hi+1)
		}
	}
	return out
}

// lists is lists of up to two ranges (touching, overlapping, falling, of no code points), and some longer ones.
func lists() [][]api.Range {
	edges := []int{math.MinInt, -1, 0, 1, 3, 4, 0xd800, api.MaxRune, api.MaxRune + 1, math.MaxInt}
	var single []api.Range
	for _, lo := range edges {
		for _, hi := range edges {
			single = append(single, api.Range{Lo: lo, Hi: hi})
		}
	}
	out := [][]api.Range{nil, {}}
	for i, x := range single {
		out = append(out, []api.Range{x})
		for _, y := range single[i%3:] {
			out = append(out, []api.Range{x, y})
		}
	}
	return append(out, longLists()...)
}

func longLists() [][]api.Range {
	var even, odd, falling, nested []api.Range
	for i := range 300 {
		even = append(even, api.Range{Lo: 2 * i, Hi: 2 * i})
		odd = append(odd, api.Range{Lo: 2*i + 1, Hi: 2*i + 1})
		falling = append(falling, api.Range{Lo: 9000 - 7*i, Hi: 9000 - 7*i + i%9})
		nested = append(nested, api.Range{Lo: 1000 + i, Hi: 5000 - i})
	}
	return [][]api.Range{
		even, odd, falling, nested, slices.Concat(even, odd), slices.Concat(odd, nested, even),
		{{Lo: 1, Hi: 100}, {Lo: 2, Hi: 3}, {Lo: 50, Hi: 60}, {Lo: 101, Hi: 101}},
		{{Lo: 10, Hi: 20}, {Lo: 5, Hi: 7}, {Lo: 8, Hi: 9}, {Lo: 22, Hi: 22}, {Lo: 30, Hi: 25}},
		{{Lo: 0, Hi: 0xd7ff}, {Lo: 0xe000, Hi: api.MaxRune}},
		{{Lo: 0, Hi: 0}, {Lo: 2, Hi: api.MaxRune - 2}, {Lo: api.MaxRune, Hi: api.MaxRune}},
	}
}

// few is every so many-th one, as pairs of all lists would be too many.
func few(step int) [][]api.Range {
	var out [][]api.Range
	for i, l := range lists() {
		if i%step == 0 {
			out = append(out, l)
		}
	}
	return append(out, longLists()...)
}

func TestMake(t *testing.T) { // P3.1
	for _, c := range []struct{ l, want []api.Range }{
		{nil, nil},
		{[]api.Range{}, nil},
		{[]api.Range{{Lo: 5, Hi: 7}, {Lo: 8, Hi: 9}}, []api.Range{{Lo: 5, Hi: 9}}},
		{[]api.Range{{Lo: 5, Hi: 7}, {Lo: 9, Hi: 9}}, []api.Range{{Lo: 5, Hi: 7}, {Lo: 9, Hi: 9}}},
		{[]api.Range{{Lo: 9, Hi: 9}, {Lo: 5, Hi: 7}, {Lo: 1, Hi: 2}}, []api.Range{{Lo: 1, Hi: 2}, {Lo: 5, Hi: 7}, {Lo: 9, Hi: 9}}},
		{[]api.Range{{Lo: 1, Hi: 9}, {Lo: 2, Hi: 3}, {Lo: 4, Hi: 4}, {Lo: 9, Hi: 10}}, []api.Range{{Lo: 1, Hi: 10}}},
		{[]api.Range{{Lo: 2, Hi: 3}, {Lo: 2, Hi: 9}, {Lo: 2, Hi: 5}}, []api.Range{{Lo: 2, Hi: 9}}},
		{[]api.Range{{Lo: 9, Hi: 5}}, nil},
		{[]api.Range{{Lo: -1, Hi: -5}, {Lo: -5, Hi: -1}}, nil},
		{[]api.Range{{Lo: -5, Hi: 0}}, []api.Range{{Lo: 0, Hi: 0}}},
		{[]api.Range{{Lo: api.MaxRune, Hi: api.MaxRune + 5}}, []api.Range{{Lo: api.MaxRune, Hi: api.MaxRune}}},
		{[]api.Range{{Lo: api.MaxRune + 1, Hi: api.MaxRune + 5}, {Lo: api.MaxRune + 5, Hi: api.MaxRune + 1}}, nil},
		{[]api.Range{{Lo: math.MinInt, Hi: math.MaxInt}}, all},
		{[]api.Range{{Lo: math.MaxInt, Hi: math.MinInt}, {Lo: math.MaxInt, Hi: math.MaxInt}, {Lo: math.MinInt, Hi: math.MinInt}}, nil},
		{[]api.Range{{Lo: 0xd800, Hi: 0xdfff}}, []api.Range{{Lo: 0xd800, Hi: 0xdfff}}},
	} {
		if got := ranges.Make(c.l); !slices.Equal(got, c.want) {
			t.Errorf("Make(%v) = %v, want %v", c.l, got, c.want)
		}
	}
}

func TestMakeIsTheSetThatIsMeant(t *testing.T) { // P3.1
	for _, l := range lists() {
		got := ranges.Make(l)
		if !isSet(got) {
			t.Fatalf("Make(%v) = %v is no set", l, got)
		}
		for _, r := range near(l, got) {
			if means(got, r) != means(l, r) {
				t.Fatalf("Make(%v) = %v is another set at %d", l, got, r)
			}
		}
	}
}

func TestCan(t *testing.T) { // P3.1
	for _, l := range lists() {
		if got := ranges.Can(l); got != isSet(l) {
			t.Fatalf("Can(%v) = %v", l, got)
		}
		if !ranges.Can(ranges.Make(l)) {
			t.Fatalf("Can of Make(%v) is false", l)
		}
	}
	for _, c := range []struct {
		l    []api.Range
		want bool
	}{
		{nil, true},
		{[]api.Range{}, true},
		{all, true},
		{[]api.Range{{Lo: 0, Hi: 0}, {Lo: 2, Hi: 2}}, true},
		{[]api.Range{{Lo: 0, Hi: 0}, {Lo: 1, Hi: 1}}, false},
		{[]api.Range{{Lo: 0, Hi: 5}, {Lo: 5, Hi: 9}}, false},
		{[]api.Range{{Lo: 7, Hi: 9}, {Lo: 0, Hi: 5}}, false},
		{[]api.Range{{Lo: 3, Hi: 3}, {Lo: 3, Hi: 3}}, false},
		{[]api.Range{{Lo: 3, Hi: 2}}, false},
		{[]api.Range{{Lo: -1, Hi: 2}}, false},
		{[]api.Range{{Lo: 1, Hi: api.MaxRune + 1}}, false},
		{[]api.Range{{Lo: 0, Hi: math.MaxInt}, {Lo: math.MinInt, Hi: 0}}, false},
		{[]api.Range{{Lo: 0xd800, Hi: 0xdfff}, {Lo: api.MaxRune, Hi: api.MaxRune}}, true},
	} {
		if got := ranges.Can(c.l); got != c.want {
			t.Errorf("Can(%v) = %v", c.l, got)
		}
	}
}

func TestOperations(t *testing.T) { // P3.2
	a := []api.Range{{Lo: 8, Hi: 9}, {Lo: 5, Hi: 7}, {Lo: 20, Hi: 10}, {Lo: -5, Hi: 1}}
	b := []api.Range{{Lo: 7, Hi: 12}, {Lo: 9, Hi: 8}}
	for _, c := range []struct {
		name      string
		got, want []api.Range
	}{
		{"Union", ranges.Union(a, b), []api.Range{{Lo: 0, Hi: 1}, {Lo: 5, Hi: 12}}},
		{"Meet", ranges.Meet(a, b), []api.Range{{Lo: 7, Hi: 9}}},
		{"Minus", ranges.Minus(a, b), []api.Range{{Lo: 0, Hi: 1}, {Lo: 5, Hi: 6}}},
		{"Minus the other way", ranges.Minus(b, a), []api.Range{{Lo: 10, Hi: 12}}},
		{"Xor", ranges.Xor(a, b), []api.Range{{Lo: 0, Hi: 1}, {Lo: 5, Hi: 6}, {Lo: 10, Hi: 12}}},
		{"Not", ranges.Not(a), []api.Range{{Lo: 2, Hi: 4}, {Lo: 10, Hi: api.MaxRune}}},
		{"Not of nothing", ranges.Not(nil), all},
		{"Not of all", ranges.Not([]api.Range{{Lo: math.MinInt, Hi: math.MaxInt}}), nil},
		{"Union of nothing", ranges.Union(nil, []api.Range{}), nil},
		{"Xor of what touches", ranges.Xor([]api.Range{{Lo: 1, Hi: 3}}, []api.Range{{Lo: 4, Hi: 6}}), []api.Range{{Lo: 1, Hi: 6}}},
	} {
		if !slices.Equal(c.got, c.want) {
			t.Errorf("%s = %v, want %v", c.name, c.got, c.want)
		}
	}
}

func TestOperationsAreWhatIsMeant(t *testing.T) { // P3.2
	operations := []struct {
		name string
		call func(a, b []api.Range) []api.Range
		want func(inA, inB bool) bool
	}{
		{"Union", ranges.Union, func(inA, inB bool) bool { return inA || inB }},
		{"Meet", ranges.Meet, func(inA, inB bool) bool { return inA && inB }},
		{"Minus", ranges.Minus, func(inA, inB bool) bool { return inA && !inB }},
		{"Xor", ranges.Xor, func(inA, inB bool) bool { return inA != inB }},
		{"Not", func(a, _ []api.Range) []api.Range { return ranges.Not(a) }, func(inA, _ bool) bool { return !inA }},
	}
	for _, a := range few(97) {
		for _, b := range few(89) {
			for _, o := range operations {
				got := o.call(a, b)
				if !isSet(got) {
					t.Fatalf("%s(%v, %v) = %v is no set", o.name, a, b, got)
				}
				for _, r := range near(got, a[:min(3, len(a))], b[:min(3, len(b))]) {
					if r >= 0 && r <= api.MaxRune && means(got, r) != o.want(means(a, r), means(b, r)) {
						t.Fatalf("%s(%v, %v) = %v is wrong at %d", o.name, a, b, got, r)
					}
				}
			}
		}
	}
}

func TestHasAndSize(t *testing.T) { // P3.3
	for _, l := range lists() {
		for _, r := range near(l) {
			if got := ranges.Has(l, r); got != means(l, r) {
				t.Fatalf("Has(%v, %d) = %v", l, r, got)
			}
		}
	}
	for _, c := range []struct {
		l    []api.Range
		want int
	}{
		{nil, 0},
		{[]api.Range{{Lo: 9, Hi: 5}, {Lo: -3, Hi: -1}, {Lo: api.MaxRune + 1, Hi: math.MaxInt}}, 0},
		{[]api.Range{{Lo: 4, Hi: 4}}, 1},
		{[]api.Range{{Lo: 1, Hi: 5}, {Lo: 3, Hi: 7}, {Lo: 3, Hi: 7}, {Lo: 9, Hi: 9}}, 8},
		{[]api.Range{{Lo: math.MinInt, Hi: math.MaxInt}, {Lo: 0, Hi: 5}}, api.MaxRune + 1},
		{[]api.Range{{Lo: 0xd800, Hi: 0xdfff}}, 0x800},
	} {
		if got := ranges.Size(c.l); got != c.want {
			t.Errorf("Size(%v) = %d, want %d", c.l, got, c.want)
		}
	}
}

func TestSizeCountsWhatHasTells(t *testing.T) { // P3.3
	for _, l := range longLists() {
		n := 0
		for r := range api.MaxRune + 1 {
			if r < 10000 || len(l) < 5 {
				if ranges.Has(l, r) {
					n++
				}
			}
		}
		if got := ranges.Size(l); got != n {
			t.Errorf("Size(%v) = %d, want %d", l, got, n)
		}
	}
}

func TestAlgebra(t *testing.T) { // P3.4
	union, meet, not := ranges.Union, ranges.Meet, ranges.Not
	sets := few(1999)
	laws := []struct {
		name string
		hold func(a, b, c []api.Range) bool
	}{
		{"union commutes", func(a, b, c []api.Range) bool { return slices.Equal(union(a, b), union(b, a)) }},
		{"meet commutes", func(a, b, c []api.Range) bool { return slices.Equal(meet(a, b), meet(b, a)) }},
		{"union associates", func(a, b, c []api.Range) bool { return slices.Equal(union(a, union(b, c)), union(union(a, b), c)) }},
		{"meet associates", func(a, b, c []api.Range) bool { return slices.Equal(meet(a, meet(b, c)), meet(meet(a, b), c)) }},
		{"meet distributes", func(a, b, c []api.Range) bool {
			return slices.Equal(meet(a, union(b, c)), union(meet(a, b), meet(a, c)))
		}},
		{"union distributes", func(a, b, c []api.Range) bool {
			return slices.Equal(union(a, meet(b, c)), meet(union(a, b), union(a, c)))
		}},
		{"absorption", func(a, b, c []api.Range) bool {
			return slices.Equal(union(a, meet(a, b)), ranges.Make(a)) && slices.Equal(meet(a, union(a, b)), ranges.Make(a))
		}},
		{"nothing and all", func(a, b, c []api.Range) bool {
			return slices.Equal(union(a, nil), ranges.Make(a)) && slices.Equal(meet(a, all), ranges.Make(a))
		}},
		{"complement", func(a, b, c []api.Range) bool {
			return slices.Equal(union(a, not(a)), all) && len(meet(a, not(a))) == 0 && slices.Equal(not(not(a)), ranges.Make(a))
		}},
		{"minus", func(a, b, c []api.Range) bool { return slices.Equal(ranges.Minus(a, b), meet(a, not(b))) }},
		{"xor", func(a, b, c []api.Range) bool {
			return slices.Equal(ranges.Xor(a, b), ranges.Minus(union(a, b), meet(a, b)))
		}},
	}
	for i, a := range sets {
		for k, b := range sets {
			c := sets[(i*7+k)%len(sets)]
			for _, law := range laws {
				if !law.hold(a, b, c) {
					t.Fatalf("%s: not of %v, %v, %v", law.name, a, b, c)
				}
			}
		}
	}
}

func TestSizesOfUnionAndMeet(t *testing.T) { // P3.5
	for _, a := range few(197) {
		for _, b := range few(211) {
			both := ranges.Size(ranges.Union(a, b)) + ranges.Size(ranges.Meet(a, b))
			if both != ranges.Size(a)+ranges.Size(b) {
				t.Fatalf("of %v and %v: %d and %d, together %d", a, b, ranges.Size(a), ranges.Size(b), both)
			}
		}
	}
}

// calls is all calls that answer a set, of two lists.
func calls() map[string]func(a, b []api.Range) []api.Range {
	return map[string]func(a, b []api.Range) []api.Range{
		"Make":  func(a, _ []api.Range) []api.Range { return ranges.Make(a) },
		"Not":   func(a, _ []api.Range) []api.Range { return ranges.Not(a) },
		"Union": ranges.Union, "Meet": ranges.Meet, "Minus": ranges.Minus, "Xor": ranges.Xor,
	}
}

func TestArgumentsStayAndAnswersAreNew(t *testing.T) {
	mine := []api.Range{{Lo: 30, Hi: 40}, {Lo: 1, Hi: 3}, {Lo: 4, Hi: 5}, {Lo: 77, Hi: 78}}
	set := []api.Range{{Lo: 1, Hi: 5}, {Lo: 30, Hi: 40}, {Lo: 77, Hi: 78}}
	for name, call := range calls() {
		for _, from := range [][]api.Range{mine, set} {
			for _, second := range [][]api.Range{nil, from[:2]} {
				whole := slices.Clone(from)
				a := whole[:2]
				got := call(a, second)
				want := slices.Clone(got)
				for i := range got[:cap(got)] {
					got[:cap(got)][i] = api.Range{Lo: -9, Hi: -9}
				}
				if !slices.Equal(whole, from) {
					t.Errorf("%s shares or changes its argument: %v", name, whole)
				}
				if again := call(a, second); !slices.Equal(again, want) {
					t.Errorf("%s answers %v, then %v", name, want, again)
				}
			}
		}
	}
	whole := slices.Clone(mine)
	ranges.Can(whole[:3])
	ranges.Has(whole[:3], 4)
	ranges.Size(whole[:3])
	if !slices.Equal(whole, mine) {
		t.Errorf("an argument has changed: %v", whole)
	}
}

func TestLongLists(t *testing.T) {
	var l, whole []api.Range
	for i := range 1 << 18 {
		l = append(l, api.Range{Lo: 4 * ((i * 5003) % (1 << 18)), Hi: 4 * ((i * 5003) % (1 << 18))})
		whole = append(whole, api.Range{Lo: -i, Hi: math.MaxInt - i})
	}
	if n := ranges.Size(l); n != 1<<18 {
		t.Errorf("Size = %d", n)
	}
	if got := ranges.Make(whole); !slices.Equal(got, all) {
		t.Errorf("Make = %v", got)
	}
	if got := ranges.Xor(l, whole); !slices.Equal(got, ranges.Not(l)) {
		t.Errorf("Xor of all has %d ranges", len(got))
	}
}
