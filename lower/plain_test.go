package lower_test

import (
	"math"
	"testing"

	"rubricator/api"
	"rubricator/lower"
	"rubricator/ranges"
)

func allowed(t *testing.T, what string, n api.Node) {
	t.Helper()
	if !lower.Plain(n) {
		t.Errorf("%s: refused", what)
	}
}

func refused(t *testing.T, what string, n api.Node) {
	t.Helper()
	if lower.Plain(n) {
		t.Errorf("%s: allowed", what)
	}
}

// within is a node as itself, and wherever else it may stand.
func within(n api.Node) []api.Node {
	a := set('a', 'a')
	return []api.Node{n, seq(n), seq(a, n, a), alt(n), alt(a, n), group(1, "", n), times(0, 1, 0, n), look(api.Behind, n), atomic(n), seq(group(0, "", alt(seq(a), seq(times(2, 3, 1, atomic(look(api.Ahead, seq(a, n))))))))}
}

func TestPlainKinds(t *testing.T) { // P17.2
	a := set('a', 'a')
	right := map[string]api.Node{
		"a set": a, "no set": set(), "a sequence": seq(a, a), "an empty sequence": seq(), "one alternative": alt(a), "alternatives": alt(a, seq(), alt(a)), "a repetition": times(0, -1, 0, a), "a repetition of another one": times(0, 1, 1, times(2, 2, 2, a)), "a repeated look": times(0, 1, 0, look(api.Ahead, a)),
		"a group": group(1, "n", a), "a group without a number": group(0, "", a), "a group in a group of that number": group(1, "", group(1, "", a)), "a look": look(api.NotBehind, seq()), "an atomic part": atomic(alt(a)), "an assertion": assertion(api.WordEdge), "a backreference of no group": back(7), "a cluster": cluster,
	}
	for what, n := range right {
		for _, x := range within(n) {
			allowed(t, what, x)
		}
	}
	wrong := map[string]api.Node{"no alternatives": alt(), "no node": {}}
	for _, kind := range []int{math.MinInt, -1, 0, api.NodeChar, api.NodeAny, api.NodeClass, api.NodeRange, api.NodeProp, 16, 99, math.MaxInt} {
		for _, x := range within(of(kind, a)) {
			refused(t, "another kind", x)
		}
		wrong["another kind alone"] = of(kind)
		for what, n := range wrong {
			for _, x := range within(n) {
				refused(t, what, x)
			}
		}
	}
	for _, kind := range []int{api.NodeRepeat, api.NodeGroup, api.NodeLook, api.NodeAtomic} {
		allowed(t, "one kid", of(kind, a))
		for what, n := range map[string]api.Node{"no kid": of(kind), "two kids": of(kind, a, a), "many kids": of(kind, a, a, a, a)} {
			for _, x := range within(n) {
				refused(t, what, x)
			}
		}
	}
}

func TestPlainFields(t *testing.T) { // P17.2: numbers and modes, at their limits and beyond
	a := set('a', 'a')
	numbers := []int{math.MinInt, -2, -1, 0, 1, 2, 3, 4, 9, 10, 11, 19, 20, 21, 50, 99, 100, 101, math.MaxInt}
	ask := func(n api.Node, want bool) {
		t.Helper()
		for _, x := range within(n) {
			if lower.Plain(x) != want {
				t.Errorf("Plain(%v) is not %v", x, want)
			}
		}
	}
	for _, i := range numbers {
		ask(group(i, "", a), i >= 0 && i <= api.MaxGroups)
		ask(back(i), i >= 1 && i <= api.MaxGroups)
		ask(look(i, a), i >= 0 && i <= 3)
		ask(assertion(i), i >= 1 && i <= 10)
		ask(times(0, 1, i, a), i >= 0 && i <= 2)
		for _, k := range numbers {
			ask(times(i, k, 0, a), i >= 0 && i <= api.MaxRepeat && (k == -1 || k >= i && k <= api.MaxRepeat))
		}
	}
}

func TestOtherFieldsOfPlain(t *testing.T) { // P17.2: they play no part
	a := set('a', 'a')
	bad := pairs('b', 'a')
	for _, kind := range []int{api.NodeSeq, api.NodeAlt, api.NodeAtomic} {
		allowed(t, "fields of one with kids", api.Node{Kind: kind, Mode: -9, A: -7, B: 999, Neg: true, Name: "?", Set: bad, Kids: []api.Node{a}})
	}
	allowed(t, "a group's", api.Node{Kind: api.NodeGroup, Mode: 77, B: -7, Neg: true, Name: "not a name", Set: bad, Kids: []api.Node{a}})
	allowed(t, "a group's name without a number", group(0, "n", a))
	allowed(t, "a look's", api.Node{Kind: api.NodeLook, A: -7, B: 777, Neg: true, Name: "?", Set: bad, Kids: []api.Node{a}})
	allowed(t, "a repetition's", api.Node{Kind: api.NodeRepeat, B: 3, Neg: true, Name: "?", Set: bad, Kids: []api.Node{a}})
	for _, kids := range [][]api.Node{{{}}, {alt(), char('a')}, {a, a}, deep(500).Kids} {
		allowed(t, "a set's", api.Node{Kind: api.NodeSet, Mode: -9, A: -7, B: 999, Neg: true, Name: "?", Set: a.Set, Kids: kids})
		allowed(t, "an assertion's", api.Node{Kind: api.NodeAssert, Mode: 1, A: -7, B: 999, Neg: true, Name: "?", Set: bad, Kids: kids})
		allowed(t, "a backreference's", api.Node{Kind: api.NodeBack, Mode: -9, A: 1, B: -2, Neg: true, Name: "?", Set: bad, Kids: kids})
		allowed(t, "a cluster's", api.Node{Kind: api.NodeCluster, Mode: -9, A: -7, B: 999, Neg: true, Name: "?", Set: bad, Kids: kids})
	}
}

func TestPlainSets(t *testing.T) { // P17.2: as ranges.Can has it
	ends := []int{math.MinInt, -1, 0, 1, 2, 3, 4, 0xd800, api.MaxRune - 1, api.MaxRune, api.MaxRune + 1, math.MaxInt}
	var single []api.Range
	for _, lo := range ends {
		for _, hi := range ends {
			single = append(single, api.Range{Lo: lo, Hi: hi})
		}
	}
	ask := func(l []api.Range) {
		t.Helper()
		if lower.Plain(sets(l)) != ranges.Can(l) || lower.Plain(seq(cluster, sets(l))) != ranges.Can(l) {
			t.Errorf("Plain of %x is not %v", l, ranges.Can(l))
		}
	}
	ask(nil)
	ask([]api.Range{})
	for _, x := range single {
		ask([]api.Range{x})
		for _, y := range single {
			ask([]api.Range{x, y})
			ask([]api.Range{{Lo: 0, Hi: 0}, x, y})
			ask([]api.Range{x, y, {Lo: api.MaxRune, Hi: api.MaxRune}})
		}
	}
}

// deep is a sequence with so many nodes below one another in it.
func deep(below int) api.Node {
	n := seq()
	for range below {
		n = seq(n)
	}
	return n
}

func TestDepthOfPlain(t *testing.T) { // P17.2: nothing more than 400 nodes below the first one
	a := set('a', 'a')
	put := map[string]func(n api.Node) api.Node{
		"sequences": func(n api.Node) api.Node { return seq(a, n) }, "alternatives": func(n api.Node) api.Node { return alt(n, a) }, "repetitions": func(n api.Node) api.Node { return times(0, 1, 0, n) },
		"groups": func(n api.Node) api.Node { return group(0, "", n) }, "looks": func(n api.Node) api.Node { return look(api.Ahead, n) }, "atomic parts": atomic,
	}
	for what, f := range put {
		for _, last := range []api.Node{a, seq(), cluster, back(1), assertion(1), of(api.NodeSet, deep(3))} {
			n := last
			for range 400 {
				n = f(n)
			}
			allowed(t, what, n)
			refused(t, what+", one more", f(n))
			refused(t, what+", one more below others", seq(a, n, a))
		}
	}
}

func TestThatPlainEnds(t *testing.T) { // the rule Ends
	a := set('a', 'a')
	n := a
	for range 1<<16 - 2 {
		n = seq(n)
	}
	refused(t, "many within one another", n)
	round := make([]api.Node, 1)
	round[0] = of(api.NodeGroup, round...)
	refused(t, "a group within itself", round[0])
	twice := make([]api.Node, 2)
	twice[0], twice[1] = seq(twice...), alt(twice...)
	refused(t, "alternatives within themselves", alt(twice...))
	long := make([]api.Node, 1<<20)
	for i := range long {
		long[i] = a
	}
	allowed(t, "a long one", seq(long...))
	long[len(long)-1] = char('a')
	refused(t, "a long one that ends wrongly", seq(long...))
}
