package compile_test

import (
	"fmt"
	"math"
	"slices"
	"strings"
	"testing"

	"rubricator/api"
	"rubricator/compile"
)

func of(kind int, l ...api.Node) api.Node { return api.Node{Kind: kind, Kids: l} }

func seq(l ...api.Node) api.Node { return of(api.NodeSeq, l...) }

func alt(l ...api.Node) api.Node { return of(api.NodeAlt, l...) }

func atomic(n api.Node) api.Node { return of(api.NodeAtomic, n) }

func group(number int, name string, n api.Node) api.Node {
	return api.Node{Kind: api.NodeGroup, A: number, Name: name, Kids: []api.Node{n}}
}

func times(a, b, mode int, n api.Node) api.Node {
	return api.Node{Kind: api.NodeRepeat, A: a, B: b, Mode: mode, Kids: []api.Node{n}}
}

func look(mode int, n api.Node) api.Node {
	return api.Node{Kind: api.NodeLook, Mode: mode, Kids: []api.Node{n}}
}

func back(a int) api.Node { return api.Node{Kind: api.NodeBack, A: a} }

func assertion(mode int) api.Node { return api.Node{Kind: api.NodeAssert, Mode: mode} }

// set is a set of single code points, which may not touch.
func set(l ...int) api.Node {
	n := api.Node{Kind: api.NodeSet}
	for _, r := range l {
		n.Set = append(n.Set, api.Range{Lo: r, Hi: r})
	}
	return n
}

var (
	a, c, e = set('a'), set('c'), set('e')
	cluster = api.Node{Kind: api.NodeCluster}
	plain   = api.Options{}
)

// said is a program's instructions in words; a field that has no business in an instruction is told, too.
func said(code []api.Inst) string {
	var out []string
	for _, i := range code {
		word := []string{0: "none", 1: "set", 2: "split", 3: "jump", 4: "save", 5: "assert", 6: "cluster", 7: "back", 8: "look", 9: "atomic", 10: "mark", 11: "check", 12: "done"}[i.Op]
		fields := []string{word}
		add := func(named bool, name string, n int) {
			if named {
				fields = append(fields, fmt.Sprint(n))
			} else if n != 0 {
				fields = append(fields, fmt.Sprintf("%s=%d", name, n))
			}
		}
		has := func(l ...int) bool { return slices.Contains(l, i.Op) }
		behind := i.Op == api.OpLook && i.X >= api.Behind
		add(has(api.OpSplit, api.OpJump, api.OpSave, api.OpAssert, api.OpBack, api.OpLook, api.OpMark, api.OpCheck), "X", i.X)
		add(has(api.OpSplit, api.OpLook, api.OpAtomic, api.OpCheck), "Y", i.Y)
		add(behind, "Min", i.Min)
		add(behind, "Max", i.Max)
		for _, x := range i.Set {
			fields = append(fields, fmt.Sprintf("%c", x.Lo))
		}
		out = append(out, strings.Join(fields, " "))
	}
	return strings.Join(out, ", ")
}

// body is what a tree becomes, without what stands around it in each program.
func body(t *testing.T, n api.Node) string {
	t.Helper()
	p, e := compile.Prog(n, plain)
	if e != api.OK {
		t.Fatalf("%v: %v", n, e)
	}
	if !compile.Can(p) {
		t.Errorf("%v: %v may not be", n, p)
	}
	s, ok := strings.CutPrefix(said(p.Code), "save 0, ")
	if !ok {
		t.Fatalf("%v: no place is saved ahead: %s", n, s)
	}
	if s == "save 1, done" {
		return ""
	}
	s, ok = strings.CutSuffix(s, ", save 1, done")
	if !ok {
		t.Fatalf("%v: no place is saved behind: %s", n, s)
	}
	return s
}

func TestWhatTreesBecome(t *testing.T) { // P19.1
	for _, x := range []struct {
		n    api.Node
		want string
	}{
		{a, "set a"}, {set(), "set"}, {set('a', 'c'), "set a c"}, {cluster, "cluster"},
		{seq(), ""}, {seq(a), "set a"}, {seq(a, c, seq(e, a)), "set a, set c, set e, set a"}, {seq(seq(), seq(seq())), ""},
		{alt(a), "set a"}, {alt(seq()), ""}, {alt(a, c), "split 2 4, set a, jump 5, set c"}, {alt(seq(), seq()), "split 2 3, jump 3"},
		{alt(a, seq(c, e), a), "split 2 4, set a, jump 9, split 5 8, set c, set e, jump 9, set a"},
		{seq(a, alt(c, a), e), "set a, split 3 5, set c, jump 6, set a, set e"},
		{alt(alt(a, c), e), "split 2 7, split 3 5, set a, jump 6, set c, jump 8, set e"},
		{group(0, "", a), "set a"}, {group(0, "n", a), "set a"}, {group(1, "", a), "save 2, set a, save 3"}, {group(2, "", group(1, "", seq())), "save 4, save 2, save 3, save 5"}, {group(20, "", seq()), "save 40, save 41"},
		{seq(group(1, "", a), back(1)), "save 2, set a, save 3, back 1"}, {seq(back(1), group(2, "", seq())), "back 1, save 4, save 5"},
		{assertion(1), "assert 1"}, {assertion(10), "assert 10"}, {seq(assertion(2), assertion(3), assertion(9)), "assert 2, assert 3, assert 9"},
		{atomic(a), "atomic 4, set a, done"}, {atomic(seq()), "atomic 3, done"}, {atomic(alt(a, c)), "atomic 7, split 3 5, set a, jump 6, set c, done"}, {seq(a, atomic(atomic(c))), "set a, atomic 7, atomic 6, set c, done, done"},
		{look(0, a), "look 0 4, set a, done"}, {look(1, seq(a, c)), "look 1 5, set a, set c, done"}, {look(0, cluster), "look 0 4, cluster, done"}, {look(1, times(0, -1, 0, a)), "look 1 8, split 3 7, mark 0, set a, check 0 7, jump 2, done"},
		{look(2, a), "look 2 4 1 1, set a, done"}, {look(3, seq()), "look 3 3 0 0, done"}, {look(2, alt(a, seq(c, e))), "look 2 8 1 2, split 3 5, set a, jump 7, set c, set e, done"}, {look(3, times(2, 4, 1, a)), "look 3 9 2 4, set a, set a, split 8 5, set a, split 8 7, set a, done"},
		{look(2, look(3, a)), "look 2 6 0 0, look 3 5 1 1, set a, done, done"}, {look(2, assertion(1)), "look 2 4 0 0, assert 1, done"},
	} {
		if got := body(t, x.n); got != x.want {
			t.Errorf("%v: %s, want %s", x.n, got, x.want)
		}
	}
}

func TestWhatRepetitionsBecome(t *testing.T) { // P19.1
	for _, x := range []struct {
		n    api.Node
		want string
	}{
		{times(0, -1, 0, a), "split 2 6, mark 0, set a, check 0 6, jump 1"}, {times(0, -1, 1, a), "split 6 2, mark 0, set a, check 0 6, jump 1"}, {times(0, -1, 2, a), "atomic 8, split 3 7, mark 0, set a, check 0 7, jump 2, done"},
		{times(1, -1, 0, a), "set a, split 3 7, mark 0, set a, check 0 7, jump 2"}, {times(2, -1, 1, a), "set a, set a, split 8 4, mark 0, set a, check 0 8, jump 3"}, {times(1, -1, 2, a), "atomic 9, set a, split 4 8, mark 0, set a, check 0 8, jump 3, done"},
		{times(0, 1, 0, a), "split 2 3, set a"}, {times(0, 1, 1, a), "split 3 2, set a"}, {times(0, 1, 2, a), "atomic 5, split 3 4, set a, done"},
		{times(0, 3, 0, a), "split 2 7, set a, split 4 7, set a, split 6 7, set a"}, {times(1, 3, 0, seq(a, c)), "set a, set c, split 4 9, set a, set c, split 7 9, set a, set c"}, {times(1, 3, 1, a), "set a, split 6 3, set a, split 6 5, set a"},
		{times(2, 2, 0, a), "set a, set a"}, {times(2, 2, 1, a), "set a, set a"}, {times(2, 2, 2, a), "atomic 5, set a, set a, done"},
		{times(0, 0, 0, a), ""}, {times(0, 0, 1, a), ""}, {times(0, 0, 2, a), "atomic 3, done"}, {times(0, 0, 0, times(0, -1, 0, a)), ""}, {seq(times(0, 0, 0, times(0, -1, 0, a)), times(0, -1, 0, c)), "split 2 6, mark 0, set c, check 0 6, jump 1"},
		{times(0, -1, 0, seq()), "split 2 5, mark 0, check 0 5, jump 1"}, {times(0, 2, 0, seq()), "split 2 3, split 3 3"}, {times(100, 100, 0, seq()), ""}, {times(3, -1, 0, seq()), "split 2 5, mark 0, check 0 5, jump 1"},
		{times(0, -1, 0, times(0, -1, 1, a)), "split 2 10, mark 0, split 8 4, mark 1, set a, check 1 8, jump 3, check 0 10, jump 1"},
		{seq(times(0, -1, 0, a), times(0, -1, 0, c)), "split 2 6, mark 0, set a, check 0 6, jump 1, split 7 11, mark 1, set c, check 1 11, jump 6"},
		{times(2, 2, 0, times(0, -1, 0, a)), "split 2 6, mark 0, set a, check 0 6, jump 1, split 7 11, mark 1, set a, check 1 11, jump 6"},
		{times(1, -1, 0, times(0, -1, 0, a)), "split 2 6, mark 0, set a, check 0 6, jump 1, split 7 15, mark 1, split 9 13, mark 2, set a, check 2 13, jump 8, check 1 15, jump 6"},
		{times(0, 2, 0, times(0, -1, 0, a)), "split 2 13, split 3 7, mark 0, set a, check 0 7, jump 2, split 8 13, split 9 13, mark 1, set a, check 1 13, jump 8"},
		{times(2, 2, 0, group(1, "", a)), "save 2, set a, save 3, save 2, set a, save 3"}, {times(2, 2, 0, atomic(a)), "atomic 4, set a, done, atomic 7, set a, done"}, {times(2, 2, 0, alt(a, c)), "split 2 4, set a, jump 5, set c, split 6 8, set a, jump 9, set c"}, {times(2, 2, 0, look(2, a)), "look 2 4 1 1, set a, done, look 2 7 1 1, set a, done"},
		{times(2, 2, 0, seq(assertion(4), cluster)), "assert 4, cluster, assert 4, cluster"}, {times(0, 1, 2, times(0, 1, 2, a)), "atomic 8, split 3 7, atomic 7, split 5 6, set a, done, done"},
	} {
		if got := body(t, x.n); got != x.want {
			t.Errorf("%v: %s, want %s", x.n, got, x.want)
		}
	}
}

func TestGroupsAndMarks(t *testing.T) { // P19.1
	for _, x := range []struct {
		n      api.Node
		groups int
		marks  int
		names  string
	}{
		{seq(), 0, 0, "|"}, {a, 0, 0, "|"}, {group(0, "n", a), 0, 0, "|"}, {group(1, "n", a), 1, 0, "|n|"}, {group(1, "", a), 1, 0, "||"},
		{seq(group(3, "c", a), group(1, "a", group(2, "", a))), 3, 0, "|a||c|"}, {group(4, "d", group(2, "b", a)), 4, 0, "||b||d|"}, {group(20, "z", seq()), 20, 0, strings.Repeat("|", 20) + "z|"},
		{times(0, 0, 0, group(2, "gone", times(0, -1, 0, a))), 2, 0, "||gone|"}, {times(3, -1, 0, group(1, "n", times(0, -1, 2, a))), 1, 5, "|n|"}, {times(100, 100, 0, times(0, -1, 0, seq())), 0, 100, "|"},
		{look(3, group(1, "n", a)), 1, 0, "|n|"}, {atomic(alt(group(1, "x", a), group(2, "x", a))), 2, 0, "|x|x|"},
		{api.Node{Kind: api.NodeSeq, Name: "n", A: 9, Kids: []api.Node{{Kind: api.NodeSet, Name: "m", A: 8}}}, 0, 0, "|"},
		{api.Node{Kind: api.NodeCluster, Kids: []api.Node{group(1, "n", a), group(1, "n", a), back(7)}}, 0, 0, "|"},
	} {
		for _, o := range []api.Options{plain, {Canon: true}, {Dot: true, Fold: 1}, {Multi: true, Fold: 2}} {
			p, e := compile.Prog(x.n, o)
			if e != api.OK || p.Groups != x.groups || p.Marks != x.marks || p.Options != o || strings.Join(p.Names, "|")+"|" != x.names || len(p.Names) != x.groups+1 || !compile.Can(p) {
				t.Errorf("%v with %+v: %v, %v", x.n, o, p, e)
			}
		}
	}
}

func TestErrors(t *testing.T) { // P19.1
	behind := look(2, times(0, 51, 0, a))
	long := times(100, 100, 0, times(100, 100, 0, a))
	for _, x := range []struct {
		what string
		n    api.Node
		o    api.Options
		want api.Errno
	}{
		{"no node", api.Node{}, plain, api.ErrArg}, {"a character", api.Node{Kind: api.NodeChar, A: 'a'}, plain, api.ErrArg}, {"any", seq(api.Node{Kind: api.NodeAny}), plain, api.ErrArg}, {"no alternatives", alt(), plain, api.ErrArg}, {"no kid", of(api.NodeAtomic), plain, api.ErrArg}, {"two kids", of(api.NodeRepeat, a, c), plain, api.ErrArg},
		{"a set that is none", api.Node{Kind: api.NodeSet, Set: []api.Range{{Lo: 1, Hi: 2}, {Lo: 3, Hi: 4}}}, plain, api.ErrArg}, {"a repetition that falls", times(2, 1, 0, a), plain, api.ErrArg}, {"a repetition beyond the limit", times(0, 101, 0, a), plain, api.ErrArg}, {"a repetition below -1", times(0, -2, 0, a), plain, api.ErrArg}, {"a group beyond the limit", group(21, "", a), plain, api.ErrArg}, {"a group below 0", group(-1, "", a), plain, api.ErrArg},
		{"no folding", a, api.Options{Fold: 3}, api.ErrArg}, {"a folding below 0", a, api.Options{Fold: -1}, api.ErrArg}, {"a huge folding", a, api.Options{Fold: math.MaxInt}, api.ErrArg},
		{"one number", seq(group(1, "", a), group(1, "", a)), plain, api.ErrArg}, {"one number in one another", group(2, "a", seq(a, group(2, "b", a))), plain, api.ErrArg}, {"one number in what is not there", seq(group(3, "", a), times(0, 0, 0, group(3, "", a))), plain, api.ErrArg}, {"one number three times", alt(group(5, "", a), group(5, "", a), group(5, "", a)), plain, api.ErrArg},
		{"no number", seq(group(0, "", a), group(0, "", a)), plain, api.OK}, {"repeated", times(3, 5, 0, group(1, "", a)), plain, api.OK},
		{"no group", back(1), plain, api.ErrArg}, {"none so far", seq(group(1, "", a), back(2)), plain, api.ErrArg}, {"a group without number", seq(group(0, "", a), back(1)), plain, api.ErrArg}, {"a group that is missing", seq(group(3, "", a), back(1), back(2), back(3)), plain, api.OK}, {"ahead of the group", seq(back(1), group(1, "", a)), plain, api.OK}, {"within the group", group(1, "", back(1)), plain, api.OK}, {"not there, of nothing", times(0, 0, 0, back(1)), plain, api.ErrArg}, {"of what is not there", seq(times(0, 0, 0, group(1, "", a)), back(1)), plain, api.OK},
		{"behind, up to 51", behind, plain, api.ErrWidth},
		{"behind, any number", look(2, times(0, -1, 0, a)), plain, api.ErrWidth}, {"not behind, any number", look(3, cluster), plain, api.ErrWidth}, {"behind, a group once more", look(2, seq(group(1, "", a), back(1))), plain, api.ErrWidth}, {"behind, 51", look(2, times(51, 51, 0, a)), plain, api.ErrWidth}, {"behind, 50", look(3, times(50, 50, 0, a)), plain, api.OK}, {"behind, in what is not there", times(0, 0, 0, look(2, cluster)), plain, api.ErrWidth}, {"ahead, any number", look(0, cluster), plain, api.OK},
		{"long", long, plain, api.ErrSize},
		{"long, behind any number", seq(long, look(2, cluster)), plain, api.ErrWidth}, {"long, no group", seq(long, back(1)), plain, api.ErrArg}, {"long, one number", seq(long, group(1, "", a), group(1, "", a)), plain, api.ErrArg}, {"long, no folding", long, api.Options{Fold: 3}, api.ErrArg}, {"long, no tree", seq(long, alt()), plain, api.ErrArg},
		{"behind any number, no group", seq(look(2, cluster), back(1)), plain, api.ErrArg}, {"behind any number, no folding", look(2, cluster), api.Options{Fold: -2}, api.ErrArg},
	} {
		p, e := compile.Prog(x.n, x.o)
		if e != x.want {
			t.Errorf("%s: %v, want %v", x.what, e, x.want)
		}
		if zero := fmt.Sprint(p) == fmt.Sprint(api.Prog{}); zero != (e != api.OK) {
			t.Errorf("%s: %v, %v", x.what, p, e)
		}
	}
}

func repeat(n api.Node, count int) api.Node { return seq(slices.Repeat([]api.Node{n}, count)...) }

func TestSize(t *testing.T) { // P19.1: MaxCode itself is allowed
	fits := func(what string, n api.Node, size int) {
		t.Helper()
		p, e := compile.Prog(n, plain)
		if size > api.MaxCode && e != api.ErrSize || size <= api.MaxCode && (e != api.OK || len(p.Code) != size || !compile.Can(p)) {
			t.Errorf("%s: %d instructions, %v, want %d", what, len(p.Code), e, size)
		}
	}
	for _, size := range []int{4999, 5000, 5001, 5002, 10000} {
		fits("sets", repeat(a, size-3), size)
		fits("alternatives", of(api.NodeAlt, append(slices.Repeat([]api.Node{seq()}, (size-3)/2), seq(repeat(a, (size-3)%2)))...), size)
		rest := size - 3
		fits("an atomic", atomic(repeat(a, rest-2)), size)
		fits("a look", look(1, repeat(a, rest-2)), size)
		fits("a group", group(7, "", repeat(a, rest-2)), size)
		fits("a loop", times(0, -1, 0, repeat(a, rest-4)), size)
		fits("a possessive loop", times(0, -1, 2, repeat(a, rest-6)), size)
		fits("a choice", times(0, 1, 1, repeat(a, rest-1)), size)
		fits("twice", seq(times(2, 2, 0, repeat(a, rest/2)), repeat(a, rest%2)), size)
		fits("twice, and any", seq(times(2, -1, 0, repeat(a, (rest-4)/3)), repeat(a, (rest-4)%3)), size)
		fits("up to thrice", seq(times(1, 3, 1, repeat(a, (rest-2)/3)), repeat(a, (rest-2)%3)), size)
		fits("what is not there", seq(repeat(a, rest), times(0, 0, 0, repeat(a, rest))), size)
	}
	fits("nothing", seq(), 3)
	fits("one number too many", seq(times(100, 100, 0, times(49, 49, 0, a)), repeat(a, 98)), 5001)
	fits("the last that fits", seq(times(100, 100, 0, times(49, 49, 0, a)), repeat(a, 97)), 5000)
}

func TestThatProgEnds(t *testing.T) { // the rule Ends: trees that would become programs without end
	ends := func(what string, n api.Node, want api.Errno, size int) {
		t.Helper()
		if p, e := compile.Prog(n, plain); e != want || len(p.Code) != size {
			t.Errorf("%s: %d instructions, %v", what, len(p.Code), e)
		}
	}
	for _, mode := range []int{api.Greedy, api.Lazy, api.Possessive} {
		deep, empty, some, gone, loops := a, seq(), a, a, seq()
		for range 399 {
			deep = times(100, 100, mode, deep)
			empty = times(100, 100, mode%2, empty)
			some = times(99, 100, mode, some)
			gone = times(0, 0, mode%2, gone)
			loops = times(100, -1, mode, loops)
		}
		ends("a set, again and again", deep, api.ErrSize, 0)
		ends("nothing, again and again", empty, api.OK, 3)
		ends("a set, again and again, or not", some, api.ErrSize, 0)
		ends("nothing, within one another", gone, api.OK, 3)
		ends("loops within one another", loops, api.ErrSize, 0)
	}
	many := times(100, 100, 0, times(49, 49, 0, a))
	ends("many that are long", repeat(many, 1<<16), api.ErrSize, 0)
	ends("many that are long, as alternatives", alt(repeat(many, 1<<16).Kids...), api.ErrSize, 0)
	ends("many that are long, and not there", repeat(times(0, 0, 0, many), 1<<16), api.OK, 3)
	ends("many that are empty", times(100, 100, 0, seq(a, repeat(seq(), 1<<20))), api.OK, 103)
	ends("many sets", repeat(a, 1<<20), api.ErrSize, 0)
	round := make([]api.Node, 1)
	round[0] = atomic(seq(round...))
	round[0] = of(api.NodeGroup, round...)
	ends("a group within itself", round[0], api.ErrArg, 0)
	deepest := a
	for range 400 {
		deepest = seq(deepest)
	}
	ends("as deep as may be", deepest, api.OK, 4)
	ends("deeper", seq(deepest), api.ErrArg, 0)
	for range 1<<16 - 402 {
		deepest = seq(deepest)
	}
	ends("far deeper", deepest, api.ErrArg, 0)
}

func TestMemory(t *testing.T) { // the rule Memory
	room := []api.Range{{Lo: 'a', Hi: 'c'}, {Lo: 'x', Hi: 'z'}, {Lo: 1, Hi: 1}, {Lo: 2, Hi: 2}}
	none := make([]api.Range, 0, 4)
	s := api.Node{Kind: api.NodeSet, Set: room[:2]}
	n := times(2, 4, 0, group(1, "n", seq(s, api.Node{Kind: api.NodeSet, Set: none}, s)))
	was := fmt.Sprint(n, room, none[:4])
	first, e := compile.Prog(n, plain)
	second, _ := compile.Prog(n, plain)
	if e != api.OK || fmt.Sprint(first) != fmt.Sprint(second) {
		t.Fatalf("%v, %v, %v", first, second, e)
	}
	kept := fmt.Sprint(second)
	seen := map[*api.Range]int{&room[0]: 1, &room[1]: 1, &room[2]: 1, &room[3]: 1}
	for i := range 4 {
		seen[&none[:4][i]]++
	}
	for _, p := range []api.Prog{first, second} {
		for _, i := range p.Code {
			for k := range i.Set[:cap(i.Set)] {
				seen[&i.Set[:cap(i.Set)][k]]++
			}
		}
	}
	for x, count := range seen {
		if count > 1 {
			t.Errorf("%v stands in %d lists", *x, count)
		}
	}
	for _, l := range [][]api.Inst{first.Code[:cap(first.Code)]} {
		for i := range l {
			for k := range l[i].Set {
				l[i].Set[k] = api.Range{}
			}
			l[i] = api.Inst{}
		}
	}
	clear(first.Names[:cap(first.Names)])
	if fmt.Sprint(n, room, none[:4]) != was || fmt.Sprint(second) != kept {
		t.Error("what an answer holds is shared")
	}
	compile.Can(second)
	compile.Need(second, 3)
	if fmt.Sprint(second) != kept {
		t.Error("Can or Need change what is handed in")
	}
}
