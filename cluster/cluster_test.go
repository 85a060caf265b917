package cluster_test

import (
	"math"
	"slices"
	"testing"

	"rubricator/api"
	"rubricator/cluster"
	"rubricator/props"
)

// scan is what is known of a text's code points so far, gone through from the beginning: edges in another way, without looking back.
type scan struct {
	last            string // the last one's break
	picture, joined bool   // ends in a picture and Extends; in these and a ZWJ
	odd             bool   // ends in an odd number of flags
}

// pass goes behind a code point of that break, and tells whether an edge stands ahead of it.
func (s *scan) pass(next string) bool {
	edge := s.edge(next)
	*s = scan{
		last:    next,
		picture: next == "Pictographic" || next == "Extend" && s.picture,
		joined:  next == "ZWJ" && s.picture,
		odd:     next == "Flag" && !s.odd,
	}
	return edge
}

func (s *scan) edge(next string) bool {
	among := func(x string, l ...string) bool { return slices.Contains(l, x) }
	if s.last == "CR" && next == "LF" {
		return false
	}
	if among(s.last, "Control", "CR", "LF") || among(next, "Control", "CR", "LF") {
		return true
	}
	syllable := s.last == "L" && among(next, "L", "V", "LV", "LVT") || among(s.last, "LV", "V") && among(next, "V", "T") || among(s.last, "LVT", "T") && next == "T"
	return !(syllable || among(next, "Extend", "ZWJ", "SpacingMark") || s.last == "Prepend" || s.joined && next == "Pictographic" || s.odd && next == "Flag")
}

// scanned is of each place whether it is an edge.
func scanned(x *props.Tables, l []int) []bool {
	out := make([]bool, len(l)+1)
	if len(l) == 0 {
		return out
	}
	s := scan{}
	for i, r := range l {
		out[i] = s.pass(x.Cluster(r))
	}
	out[0], out[len(l)] = true, true
	return out
}

// alphabet has one code point of each break, and a letter.
func alphabet() []int {
	return []int{'a', 0xd, 0xa, 0, 0x1100, 0x1161, 0x11a8, 0xac00, 0xac01, 0x301, 0x200d, 0x903, 0x600, 0x2764, 0x1f1e6}
}

// lists tells all lists of up to so many of an alphabet.
func lists(letters []int, most int, tell func(l []int)) {
	var grow func(l []int)
	grow = func(l []int) {
		tell(l)
		if len(l) == most {
			return
		}
		for _, r := range letters {
			grow(append(slices.Clip(l), r))
		}
	}
	grow(nil)
}

// told is of each place of a list, as a text of 1 and 0, whether it is an edge.
func told(x *props.Tables, l []int) string {
	var out []byte
	for at := range len(l) + 1 {
		if cluster.Edge(x, l, at) {
			out = append(out, '1')
		} else {
			out = append(out, '0')
		}
	}
	return string(out)
}

// check holds Edge and Next of a list against the scan.
func check(t *testing.T, x *props.Tables, l []int) {
	t.Helper()
	want := scanned(x, l)
	for at, edge := range want {
		if got := cluster.Edge(x, l, at); got != edge {
			t.Fatalf("Edge(%x, %d) = %v", l, at, got)
		}
	}
	next := len(l)
	for at := len(l) - 1; at >= 0; at-- {
		if want[at+1] {
			next = at + 1
		}
		if got := cluster.Next(x, l, at); got != next {
			t.Fatalf("Next(%x, %d) = %d, want %d", l, at, got, next)
		}
	}
}

func TestEdge(t *testing.T) { // P10.1
	x := props.Load()
	for _, c := range []struct {
		rule int
		l    []int
		want string
	}{
		{1, nil, "0"}, {1, []int{}, "0"}, {1, []int{'a'}, "11"}, {1, []int{0x301}, "11"}, {1, []int{0x200d}, "11"}, {1, []int{0x600}, "11"}, {1, []int{'a', 'b'}, "111"},
		{2, []int{0xd, 0xa}, "101"}, {2, []int{0xa, 0xd}, "111"}, {2, []int{0xd, 0xd, 0xa, 0xa}, "11011"},
		{3, []int{0xa, 0x301}, "111"}, {3, []int{0xd, 0x301}, "111"}, {3, []int{0, 0x200d}, "111"}, {3, []int{0x600, 0xa}, "111"}, {3, []int{0x600, 0xd}, "111"}, {3, []int{0x600, 0xad}, "111"}, {3, []int{0x2028, 0x903}, "111"},
		{4, []int{0x1100, 0x1100, 0x1161, 0x1161, 0x11a8, 0x11a8}, "1000001"}, {4, []int{0x1100, 0xac00, 0x1161, 0x11a8}, "10001"}, {4, []int{0x1100, 0xac01, 0x11a8}, "1001"},
		{4, []int{0xac00, 0x11a8}, "101"}, {4, []int{0xac01, 0x1161}, "111"}, {4, []int{0x11a8, 0x1161}, "111"}, {4, []int{0x1161, 0x1100}, "111"}, {4, []int{0x1100, 0x11a8}, "111"}, {4, []int{0xac00, 0xac00}, "111"}, {4, []int{0x1161, 0xac00}, "111"},
		{5, []int{0x65, 0x301}, "101"}, {5, []int{0x65, 0x301, 0x903, 0x200d, 0x61}, "100011"}, {5, []int{0x600, 0x600, 0x61}, "1001"}, {5, []int{0x600, 0x1f1e6, 0x1f1e6, 0x1f1e6}, "10011"}, {5, []int{'a', 0x600}, "111"}, {5, []int{0x301, 'a'}, "111"}, {5, []int{0x903, 'a'}, "111"},
		{6, []int{0x1f468, 0x200d, 0x2764}, "1001"}, {6, []int{0x1f468, 0xfe0f, 0x200d, 0x2764}, "10001"}, {6, []int{0x1f468, 0x301, 0x1f3fb, 0x200d, 0x2764}, "100001"},
		{6, []int{0x200d, 0x2764}, "111"}, {6, []int{0x301, 0x200d, 0x2764}, "1011"}, {6, []int{'a', 0x200d, 0x2764}, "1011"}, {6, []int{'a', 0x301, 0x200d, 0x2764}, "10011"},
		{6, []int{0x2764, 0x2764}, "111"}, {6, []int{0x2764, 0x301, 0x2764}, "1011"}, {6, []int{0x2764, 0x200d, 0x200d, 0x2764}, "10011"}, {6, []int{0x2764, 0x200d, 0x301, 0x2764}, "10011"}, {6, []int{0x2764, 0x903, 0x200d, 0x2764}, "10011"}, {6, []int{0x2764, 0x200d, 'a'}, "1011"},
		{6, []int{0x2764, 0x200d, 0x2764, 0x301, 0x200d, 0x2764}, "1000001"}, {6, []int{'a', 0x200d, 0x2764, 0x200d, 0x2764}, "101001"},
		{7, []int{0x1f1e6, 0x1f1e7}, "101"}, {7, []int{0x1f1e6, 0x1f1e6, 0x1f1e6}, "1011"}, {7, []int{0x1f1e6, 0x1f1e6, 0x1f1e6, 0x1f1e6, 0x1f1e6}, "101011"},
		{7, []int{'a', 0x1f1e6, 0x1f1e6, 0x1f1e6}, "11011"}, {7, []int{0x1f1e6, 0x301, 0x1f1e6, 0x1f1e6}, "10101"}, {7, []int{0x1f1e6, 'a', 0x1f1e6, 0x1f1e6}, "11101"}, {7, []int{0x1f1e6, 0x200d, 0x1f1e6}, "1011"}, {7, []int{0x1f1e6, 'a'}, "111"},
		{0, []int{-1, 0x301, math.MinInt, math.MaxInt, api.MaxRune + 1, 0xd800, 0xdfff}, "10111111"}, // what is no code point has no break
	} {
		if got := told(x, c.l); got != c.want {
			t.Errorf("rule %d: %x: %s, want %s", c.rule, c.l, got, c.want)
		}
		check(t, x, c.l)
	}
}

func TestNext(t *testing.T) { // P10.2
	x := props.Load()
	for _, c := range []struct {
		l        []int
		at, want int
	}{
		{[]int{0x65, 0x301, 0x61}, 0, 2}, {[]int{0x65, 0x301, 0x61}, 1, 2}, {[]int{0x65, 0x301, 0x61}, 2, 3}, {[]int{0x65, 0x301, 0x61}, 3, 3},
		{[]int{0xd, 0xa}, 0, 2}, {[]int{0xd, 0xa}, 1, 2}, {[]int{0x301}, 0, 1},
		{[]int{0x1f1e6, 0x1f1e6, 0x1f1e6}, 0, 2}, {[]int{0x1f1e6, 0x1f1e6, 0x1f1e6}, 1, 2}, {[]int{0x1f1e6, 0x1f1e6, 0x1f1e6}, 2, 3}, // what stands ahead of at counts
		{[]int{0x2764, 0x200d, 0x2764}, 1, 3}, {[]int{'a', 0x200d, 0x2764}, 1, 2},
	} {
		if got := cluster.Next(x, c.l, c.at); got != c.want {
			t.Errorf("Next(%x, %d) = %d, want %d", c.l, c.at, got, c.want)
		}
	}
}

func TestPlacesThatAreNone(t *testing.T) { // P10.1, P10.2
	x := props.Load()
	for _, l := range [][]int{nil, {}, {'a'}, {0x65, 0x301}, slices.Grow([]int{0x65, 0x301}, 9)} {
		for _, at := range []int{math.MinInt, -2, -1, len(l) + 1, len(l) + 2, math.MaxInt} {
			if cluster.Edge(x, l, at) {
				t.Errorf("Edge(%x, %d)", l, at)
			}
			if got := cluster.Next(x, l, at); got != at {
				t.Errorf("Next(%x, %d) = %d", l, at, got)
			}
		}
		if got := cluster.Next(x, l, len(l)); got != len(l) {
			t.Errorf("Next(%x, %d) = %d", l, len(l), got)
		}
	}
}

func TestListsOfAllBreaks(t *testing.T) { // P10.1, P10.2
	x := props.Load()
	breaks := map[string]int{}
	for _, r := range alphabet() {
		breaks[x.Cluster(r)]++
	}
	if len(breaks) != 15 {
		t.Fatalf("the alphabet has the breaks %v", breaks)
	}
	lists(alphabet(), 4, func(l []int) { check(t, x, l) })
}

func TestLongerLists(t *testing.T) { // P10.1, P10.2
	x := props.Load()
	lists([]int{'a', 0x301, 0x200d, 0x2764, 0x1f1e6}, 7, func(l []int) { check(t, x, l) })
}

func TestEachCodePoint(t *testing.T) { // P10.1
	x := props.Load()
	for r := range api.MaxRune + 1 {
		for _, l := range [][]int{{0x600, r, 'a'}, {0xd, r, 0xa}, {0x1100, r, 0x11a8}, {0xac00, r, 0x1161}, {0x2764, r, 0x200d, r, 0x2764}, {0x1f1e6, r, 0x1f1e6}} {
			want := scanned(x, l)
			for at := range want {
				if cluster.Edge(x, l, at) != want[at] {
					t.Fatalf("Edge(%x, %d) = %v", l, at, !want[at])
				}
			}
		}
	}
}

func TestFromEdgeToEdge(t *testing.T) { // P10.3
	x := props.Load()
	lists(alphabet(), 4, func(l []int) {
		var gone, edges []int
		for at := 0; at < len(l); at = cluster.Next(x, l, at) {
			gone = append(gone, at)
		}
		for at := range len(l) {
			if cluster.Edge(x, l, at) {
				edges = append(edges, at)
			}
		}
		if !slices.Equal(gone, edges) || len(l) > 0 && !cluster.Edge(x, l, len(l)) {
			t.Fatalf("%x: gone through by %v, edges are %v", l, gone, edges)
		}
	})
}

func TestLongOnes(t *testing.T) { // Ends
	x := props.Load()
	const n = 200_001
	flags := slices.Repeat([]int{0x1f1e6}, n)
	if cluster.Edge(x, flags, n-2) || !cluster.Edge(x, flags, n-1) || cluster.Next(x, flags, n-3) != n-1 {
		t.Error("flags")
	}
	marks := append(slices.Repeat([]int{0x301}, n), 0x200d, 0x2764)
	if cluster.Next(x, marks, 0) != n+1 || !cluster.Edge(x, marks, n+1) {
		t.Error("marks with nothing ahead of them")
	}
	marks[0] = 0x2764
	if cluster.Next(x, marks, 0) != n+2 || cluster.Edge(x, marks, n+1) {
		t.Error("marks with a picture ahead of them")
	}
}

func TestTablesThatNoCallMade(t *testing.T) { // Objects
	for name, x := range map[string]*props.Tables{"nil": nil, "plain": {}} {
		for _, l := range [][]int{nil, {'a'}, {0x65, 0x301, 'a'}} {
			for _, at := range []int{math.MinInt, -1, 0, 1, 2, 3, 4, math.MaxInt} {
				if cluster.Edge(x, l, at) {
					t.Errorf("%s tables: Edge(%x, %d)", name, l, at)
				}
				if got := cluster.Next(x, l, at); got != 0 {
					t.Errorf("%s tables: Next(%x, %d) = %d", name, l, at, got)
				}
			}
		}
	}
}

func TestMemory(t *testing.T) { // Memory
	x := props.Load()
	room := []int{0x2764, 0xfe0f, 0x200d, 0x2764, 0x1f1e6, 0x301} // the last one stands behind the list's end, and plays no part
	before := slices.Clone(room)
	if got := told(x, room[:5]); got != "100011" {
		t.Errorf("edges %s", got)
	}
	for at := range 5 {
		cluster.Next(x, room[:5], at)
	}
	if !slices.Equal(room, before) {
		t.Errorf("what is handed in has become %x", room)
	}
}
