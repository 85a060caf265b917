package width_test

import (
	"fmt"
	"math"
	"testing"

	"rubricator/api"
	"rubricator/width"
)

func of(kind int, l ...api.Node) api.Node { return api.Node{Kind: kind, Kids: l} }

func seq(l ...api.Node) api.Node { return of(api.NodeSeq, l...) }

func alt(l ...api.Node) api.Node { return of(api.NodeAlt, l...) }

func group(n api.Node) api.Node { return of(api.NodeGroup, n) }

func atomic(n api.Node) api.Node { return of(api.NodeAtomic, n) }

func times(a, b int, l ...api.Node) api.Node {
	return api.Node{Kind: api.NodeRepeat, A: a, B: b, Kids: l}
}

func look(mode int, l ...api.Node) api.Node {
	return api.Node{Kind: api.NodeLook, Mode: mode, Kids: l}
}

// row is so many sets.
func row(n int) api.Node {
	l := make([]api.Node, n)
	for i := range l {
		l[i] = set
	}
	return seq(l...)
}

var (
	set     = api.Node{Kind: api.NodeSet, Set: []api.Range{{Lo: 'a', Hi: 'z'}}}
	back    = api.Node{Kind: api.NodeBack, A: 1}
	cluster = api.Node{Kind: api.NodeCluster}
	edge    = api.Node{Kind: api.NodeAssert, Mode: api.WordEdge}
)

const (
	top  = 1 << 30 // what greater numbers count as
	none = -1      // no bound
)

// want is a node, and what it takes.
type want struct {
	n           api.Node
	least, most int
}

func check(t *testing.T, l []want) {
	t.Helper()
	for _, c := range l {
		if least, most := width.Of(c.n); least != c.least || most != c.most {
			t.Errorf("Of(%v) = %d, %d, want %d, %d", c.n, least, most, c.least, c.most)
		}
	}
}

func TestKinds(t *testing.T) { // P18.1
	check(t, []want{
		{set, 1, 1}, {api.Node{Kind: api.NodeSet}, 1, 1}, {back, 0, none}, {cluster, 1, none}, {edge, 0, 0},
		{seq(), 0, 0}, {seq(set), 1, 1}, {seq(set, set, set), 3, 3}, {seq(set, edge, seq(set, set)), 3, 3}, {seq(set, back), 1, none}, {seq(back, set), 1, none}, {seq(cluster, cluster), 2, none}, {seq(cluster, times(2, 5, set), set), 4, none},
		{alt(), 0, 0}, {alt(set), 1, 1}, {alt(cluster), 1, none}, {alt(row(3), row(2), row(4)), 2, 4}, {alt(row(2), row(4), row(3)), 2, 4}, {alt(seq(), set), 0, 1}, {alt(set, seq()), 0, 1}, {alt(back, row(2)), 0, none}, {alt(row(2), cluster), 1, none}, {alt(cluster, row(2)), 1, none}, {alt(row(3), alt()), 0, 3}, {alt(alt(row(5), row(6)), row(7)), 5, 7},
		{group(row(2)), 2, 2}, {group(cluster), 1, none}, {atomic(row(3)), 3, 3}, {atomic(back), 0, none}, {group(atomic(group(alt(set, row(2))))), 1, 2},
		{look(api.Ahead, set), 0, 0}, {look(api.NotAhead, back), 0, 0}, {look(api.Behind, row(9)), 0, 0}, {look(api.NotBehind, cluster), 0, 0}, {seq(look(api.Behind, row(9)), set), 1, 1},
		{seq(times(2, 3, set), times(0, 1, set)), 2, 4},
	})
}

func TestRepetitions(t *testing.T) { // P18.1
	check(t, []want{
		{times(0, 0, set), 0, 0}, {times(0, 1, set), 0, 1}, {times(2, 3, set), 2, 3}, {times(2, 3, row(4)), 8, 12}, {times(2, 3, times(4, 5, set)), 8, 15}, {times(100, 100, set), 100, 100}, {times(2, 3, alt(set, row(5))), 2, 15},
		{times(0, none, set), 0, none}, {times(1, none, set), 1, none}, {times(3, none, row(2)), 6, none}, {times(3, none, times(0, 1, set)), 0, none}, {times(2, none, times(1, none, set)), 2, none},
		{times(0, none, seq()), 0, 0}, {times(7, none, edge), 0, 0}, {times(7, none, look(api.Ahead, set)), 0, 0}, {times(7, none, times(0, 0, set)), 0, 0}, {times(7, 9, seq()), 0, 0}, {times(3, none, group(alt(seq(), edge))), 0, 0},
		{times(2, 3, cluster), 2, none}, {times(0, 1, cluster), 0, none}, {times(0, 1, back), 0, none}, {times(2, none, back), 0, none}, {times(5, none, cluster), 5, none}, {times(0, 0, cluster), 0, 0}, {times(0, 0, back), 0, 0}, {times(0, 0, times(0, none, set)), 0, 0},
	})
	for mode := -1; mode < 5; mode++ {
		n := times(2, 3, set)
		n.Mode = mode
		check(t, []want{{n, 2, 3}})
	}
}

func TestNumbersThatCantBe(t *testing.T) { // P18.1: A and B below 0, falling, and huge
	check(t, []want{
		{times(-1, none, set), 0, none}, {times(-1, 4, set), 0, 4}, {times(-7, 0, set), 0, 0}, {times(math.MinInt, none, cluster), 0, none}, {times(math.MinInt, 2, row(2)), 0, 4},
		{times(0, -2, set), 0, 0}, {times(3, -2, set), 3, 0}, {times(3, math.MinInt, row(2)), 6, 0}, {times(-2, -2, cluster), 0, 0}, {times(2, -9, cluster), 2, 0}, {times(1, -2, seq()), 0, 0},
		{times(5, 2, set), 5, 2}, {times(5, 0, set), 5, 0}, {times(5, 0, back), 0, 0}, {times(5, 2, cluster), 5, none},
		{times(math.MaxInt, math.MaxInt, seq()), 0, 0}, {times(math.MaxInt, none, edge), 0, 0}, {times(math.MaxInt, 0, set), top, 0}, {times(0, math.MaxInt, set), 0, top}, {times(math.MaxInt, none, set), top, none},
	})
}

func TestGreatNumbers(t *testing.T) { // P18.1: above 2^30 as 2^30
	half := times(1<<29, 1<<29, set)
	below := times(top-1, top-1, set)
	huge := times(math.MaxInt, math.MaxInt, set)
	check(t, []want{
		{below, top - 1, top - 1}, {times(top, top, set), top, top}, {times(top+1, top+1, set), top, top}, {huge, top, top}, {times(1<<32, 1<<33, set), top, top}, {times(1<<62, 1<<63-1, row(2)), top, top}, {times(3, 1<<31, set), 3, top},
		{seq(below, set), top, top}, {seq(below, set, set), top, top}, {seq(half, half), top, top}, {seq(half, half, set), top, top}, {seq(half, below), top, top}, {seq(huge, huge, huge), top, top}, {seq(huge, cluster), top, none}, {seq(cluster, huge), top, none}, {seq(times(1, top, set), times(2, top, set)), 3, top},
		{times(2, 2, half), top, top}, {times(2, 3, half), top, top}, {times(1, 3, half), 1 << 29, top}, {times(math.MaxInt, math.MaxInt, huge), top, top}, {times(top, none, huge), top, none}, {times(1<<15, 1<<16, times(1<<15, 1<<15, set)), top, top}, {times(1<<15, 1<<15-1, times(1<<15, 1<<15, set)), top, top - 1<<15},
		{alt(huge, set), 1, top}, {alt(below, huge), top - 1, top}, {group(huge), top, top}, {alt(huge, back), 0, none},
	})
	n := set
	for range 40 {
		n = times(100, 100, n)
	}
	check(t, []want{{n, top, top}, {seq(n, n), top, top}, {times(0, 100, n), 0, top}})
}

func TestOthers(t *testing.T) { // P18.1: all other kinds, Kids that are not there, or too many, and fields that play no part
	for _, kind := range []int{math.MinInt, -1, 0, api.NodeChar, api.NodeAny, api.NodeClass, api.NodeRange, api.NodeProp, api.NodeLook, api.NodeAssert, 16, 17, math.MaxInt} {
		check(t, []want{{of(kind), 0, 0}, {of(kind, set), 0, 0}, {of(kind, cluster, set), 0, 0}, {seq(of(kind, set), set), 1, 1}, {times(3, none, of(kind, set)), 0, 0}, {api.Node{Kind: kind, A: 5, B: 9, Set: set.Set, Name: "w"}, 0, 0}})
	}
	check(t, []want{
		{times(2, 3), 0, 0}, {times(2, none), 0, 0}, {of(api.NodeGroup), 0, 0}, {of(api.NodeAtomic), 0, 0}, {seq(of(api.NodeGroup), set), 1, 1},
		{times(2, 3, set, cluster), 2, 3}, {of(api.NodeGroup, row(2), set, cluster), 2, 2}, {of(api.NodeAtomic, set, row(2)), 1, 1},
		{of(api.NodeSet, row(3)), 1, 1}, {of(api.NodeSet, seq(), cluster), 1, 1}, {of(api.NodeBack, set), 0, none}, {of(api.NodeCluster, row(3)), 1, none},
		{api.Node{Kind: api.NodeSeq, Mode: 3, A: 7, B: 9, Neg: true, Name: "n", Set: set.Set, Kids: []api.Node{set}}, 1, 1}, {api.Node{Kind: api.NodeGroup, Mode: 3, A: -7, B: 9, Neg: true, Name: "n", Kids: []api.Node{set}}, 1, 1}, {api.Node{Kind: api.NodeSet, A: 4, B: 5, Neg: true, Set: []api.Range{{Lo: 9, Hi: 1}}}, 1, 1},
	})
}

func bound(t *testing.T, n api.Node, want api.Errno) {
	t.Helper()
	if e := width.Bound(n); e != want {
		t.Errorf("Bound(%v) = %v, want %v", n, e, want)
	}
}

func TestBound(t *testing.T) { // P18.2
	wide := []api.Node{row(api.MaxWidth + 1), times(51, 51, set), times(0, 51, set), times(0, none, set), times(1, math.MaxInt, set), cluster, back, alt(set, cluster), seq(row(50), times(0, 1, set)), group(times(3, 17, row(3))), atomic(alt(row(51), set))}
	narrow := []api.Node{set, seq(), alt(), row(api.MaxWidth), times(0, api.MaxWidth, set), times(0, none, edge), times(0, 0, cluster), times(60, 50, set), times(60, -2, set), group(times(2, 10, row(5))), alt(row(50), seq(), row(49)), look(api.Ahead, cluster), look(api.Ahead, row(60)), of(api.NodeChar), {}}
	for _, mode := range []int{api.Behind, api.NotBehind} {
		for _, n := range wide {
			bound(t, look(mode, n), api.ErrWidth)
		}
		for _, n := range narrow {
			bound(t, look(mode, n), api.OK)
		}
		bound(t, look(mode), api.OK)
		bound(t, look(mode, set, cluster), api.OK)
		bound(t, look(mode, cluster, set), api.ErrWidth)
	}
	for _, mode := range []int{math.MinInt, -1, api.Ahead, api.NotAhead, 4, math.MaxInt} {
		for _, n := range wide {
			bound(t, look(mode, n), api.OK)
		}
	}
	for _, n := range wide {
		bound(t, n, api.OK)
		for _, kind := range []int{0, api.NodeSet, api.NodeSeq, api.NodeGroup, api.NodeAtomic, api.NodeAssert} {
			bound(t, api.Node{Kind: kind, Mode: api.Behind, Kids: []api.Node{n}}, api.OK)
		}
	}
}

func TestBoundWithin(t *testing.T) { // P18.2: wherever the look stands
	for _, mode := range []int{api.Behind, api.NotBehind} {
		bad, good := look(mode, times(0, none, set)), look(mode, times(0, 50, set))
		places := map[string]func(n api.Node) api.Node{
			"in a sequence":             func(n api.Node) api.Node { return seq(set, n, set) },
			"the first alternative":     func(n api.Node) api.Node { return alt(n, good) },
			"the last alternative":      func(n api.Node) api.Node { return alt(set, good, n) },
			"repeated":                  func(n api.Node) api.Node { return times(2, 3, group(n)) },
			"repeated no times":         func(n api.Node) api.Node { return times(0, 0, n) },
			"grouped":                   group,
			"atomic":                    atomic,
			"ahead":                     func(n api.Node) api.Node { return look(api.Ahead, n) },
			"not ahead":                 func(n api.Node) api.Node { return look(api.NotAhead, seq(n)) },
			"behind":                    func(n api.Node) api.Node { return look(api.Behind, n) },
			"not behind":                func(n api.Node) api.Node { return look(api.NotBehind, alt(n)) },
			"a kid of a set":            func(n api.Node) api.Node { return of(api.NodeSet, n) },
			"a kid of what is no kind":  func(n api.Node) api.Node { return of(99, set, n) },
			"a kid too many":            func(n api.Node) api.Node { return times(1, 2, set, n) },
			"a kid too many of a look":  func(n api.Node) api.Node { return look(api.Behind, set, n) },
			"far within":                func(n api.Node) api.Node { return seq(group(alt(set, atomic(times(0, 1, seq(set, n)))))) },
			"behind another one":        func(n api.Node) api.Node { return seq(good, n) },
			"ahead of another one":      func(n api.Node) api.Node { return seq(n, good) },
			"in one that has its bound": func(n api.Node) api.Node { return look(api.Behind, seq(row(50), n)) },
		}
		for what, put := range places {
			if e := width.Bound(put(bad)); e != api.ErrWidth {
				t.Errorf("%s: %v, want %v", what, e, api.ErrWidth)
			}
			if e := width.Bound(put(good)); e != api.OK {
				t.Errorf("%s, with a bound: %v", what, e)
			}
			if e := width.Bound(put(put(bad))); e != api.ErrWidth {
				t.Errorf("%s, twice: %v, want %v", what, e, api.ErrWidth)
			}
		}
	}
}

func TestDeepAndWide(t *testing.T) { // the rule Ends: as many parts within one another as the document speaks of, and long lists
	grow := map[string]func(n api.Node) api.Node{
		"sequences": func(n api.Node) api.Node { return seq(n) }, "alternatives": func(n api.Node) api.Node { return alt(n, set) },
		"groups": group, "atomic parts": atomic, "repetitions": func(n api.Node) api.Node { return times(1, 1, n) },
	}
	for what, put := range grow {
		n := set
		for range 1<<16 - 2 {
			n = put(n)
		}
		if least, most := width.Of(n); least != 1 || most != 1 {
			t.Errorf("%s: %d, %d", what, least, most)
		}
		if e := width.Bound(look(api.Behind, n)); e != api.OK {
			t.Errorf("%s: %v", what, e)
		}
	}
	looks, wrong := set, cluster
	for range 1<<16 - 2 {
		looks, wrong = look(api.Behind, looks), look(api.NotBehind, wrong)
	}
	bound(t, looks, api.OK)
	if e := width.Bound(wrong); e != api.ErrWidth {
		t.Errorf("looks within one another: %v", e)
	}
	long := row(1 << 20)
	if least, most := width.Of(long); least != 1<<20 || most != 1<<20 {
		t.Errorf("a long one: %d, %d", least, most)
	}
}

func TestMemory(t *testing.T) { // the rule Memory
	room := []api.Node{set, times(2, 3, set), look(api.Behind, cluster), back, set}
	n := seq(room[:3]...)
	was := fmt.Sprint(room)
	width.Of(n)
	width.Bound(n)
	if fmt.Sprint(room) != was {
		t.Errorf("the argument became %v", room)
	}
}
