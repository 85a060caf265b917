package lower_test

import (
	"fmt"
	"math"
	"slices"
	"strings"
	"testing"

	"rubricator/api"
	"rubricator/lower"
	"rubricator/parse"
	"rubricator/props"
	"rubricator/ranges"
	"rubricator/tree"
)

func of(kind int, l ...api.Node) api.Node { return api.Node{Kind: kind, Kids: l} }

func seq(l ...api.Node) api.Node { return of(api.NodeSeq, l...) }

func alt(l ...api.Node) api.Node { return of(api.NodeAlt, l...) }

func atomic(n api.Node) api.Node { return of(api.NodeAtomic, n) }

func char(r int) api.Node { return api.Node{Kind: api.NodeChar, A: r} }

func group(number int, name string, n api.Node) api.Node {
	return api.Node{Kind: api.NodeGroup, A: number, Name: name, Kids: []api.Node{n}}
}

func times(a, b, mode int, n api.Node) api.Node {
	return api.Node{Kind: api.NodeRepeat, A: a, B: b, Mode: mode, Kids: []api.Node{n}}
}

func look(mode int, n api.Node) api.Node {
	return api.Node{Kind: api.NodeLook, Mode: mode, Kids: []api.Node{n}}
}

func back(a int) api.Node { return api.Node{Kind: api.NodeBack, A: a} }

func assertion(mode int) api.Node { return api.Node{Kind: api.NodeAssert, Mode: mode} }

var cluster = api.Node{Kind: api.NodeCluster}

// set is ranges by their ends, two by two.
func set(l ...int) api.Node { return sets(pairs(l...)) }

func sets(l []api.Range) api.Node { return api.Node{Kind: api.NodeSet, Set: l} }

// one is a set of single code points.
func one(l ...int) api.Node {
	var out []int
	for _, r := range l {
		out = append(out, r, r)
	}
	return set(out...)
}

func pairs(l ...int) []api.Range {
	var out []api.Range
	for i := 0; i < len(l); i += 2 {
		out = append(out, api.Range{Lo: l[i], Hi: l[i+1]})
	}
	return out
}

// choice is alternatives in a group without a number.
func choice(l ...api.Node) api.Node { return group(0, "", alt(l...)) }

var (
	plain  = api.Options{}
	canon  = api.Options{Canon: true}
	simple = api.Options{Fold: api.FoldSimple}
	full   = api.Options{Fold: api.FoldFull}
	every  = api.Options{Canon: true, Dot: true, Multi: true, Fold: api.FoldFull}
)

func allOptions() []api.Options {
	var out []api.Options
	for i := range 24 {
		out = append(out, api.Options{Canon: i&1 > 0, Dot: i&2 > 0, Multi: i&4 > 0, Fold: i / 8})
	}
	return out
}

// parsed is a pattern's tree.
func parsed(t *testing.T, p string) api.Node {
	t.Helper()
	n, f := parse.Parse([]byte(p))
	if f.Code != api.OK {
		t.Fatalf("%s: %v", p, f)
	}
	return n
}

// want is a pattern, how it is meant, and the parts of its tree of sets.
type want struct {
	p     string
	o     api.Options
	parts []api.Node
}

func check(t *testing.T, l []want) {
	t.Helper()
	x := props.Load()
	for _, c := range l {
		got, e := lower.Lower(x, parsed(t, c.p), c.o)
		if e != api.OK || !tree.Same(got, seq(c.parts...)) {
			t.Errorf("%s with %+v: %v, %v, want %v", c.p, c.o, got, e, seq(c.parts...))
		}
		if !lower.Plain(got) {
			t.Errorf("%s with %+v: %v is no tree of sets", c.p, c.o, got)
		}
	}
}

func TestItems(t *testing.T) { // P17.1
	dot := ranges.Not(pairs(0xa, 0xa, 0xd, 0xd, 0x85, 0x85, 0x2028, 0x2029))
	space := pairs(9, 0xd, 0x20, 0x20, 0x85, 0x85, 0xa0, 0xa0, 0x2028, 0x2029)
	check(t, []want{
		{"a", simple, []api.Node{one('A', 'a')}}, {"a", plain, []api.Node{one('a')}}, {"ab", plain, []api.Node{one('a'), one('b')}}, {"k", simple, []api.Node{one('K', 'k', 0x212a)}}, {"k", full, []api.Node{one('K', 'k', 0x212a)}}, {"\u212a", canon, []api.Node{one('K', 0x212a)}},
		{".", plain, []api.Node{sets(dot)}}, {".", api.Options{Multi: true}, []api.Node{sets(dot)}}, {".", api.Options{Dot: true}, []api.Node{set(0, api.MaxRune)}}, {".", every, []api.Node{set(0, api.MaxRune)}},
		{"[a-c]", plain, []api.Node{set('a', 'c')}}, {"[^b]", plain, []api.Node{set(0, 'a', 'c', api.MaxRune)}}, {"[a-z--[b-y]]", plain, []api.Node{one('a', 'z')}}, {"[a-m&&k-z]", simple, []api.Node{set('K', 'M', 'k', 'm', 0x212a, 0x212a)}}, {"[a~~a]", plain, []api.Node{set()}}, {"[[^a]~~[^b]]", plain, []api.Node{set('a', 'b')}},
		{`\d`, plain, []api.Node{set('0', '9', 0x660, 0x669)}}, {`\D`, every, []api.Node{sets(ranges.Not(pairs('0', '9', 0x660, 0x669)))}}, {`\s`, plain, []api.Node{sets(space)}}, {`\S`, plain, []api.Node{sets(ranges.Not(space))}}, {`\p{Nl}`, plain, []api.Node{set(0x2160, 0x2163)}}, {`\P{ASCII}`, plain, []api.Node{set(0x80, api.MaxRune)}}, {`\p{ASCII}`, simple, []api.Node{set(0, 0x7f, 0x17f, 0x17f, 0x212a, 0x212a)}},
		{"", every, nil},
	})
}

func TestTexts(t *testing.T) { // P17.1: what stands for several items, too
	s, f, i := one('S', 's', 0x17f), one('F', 'f'), one('I', 'i')
	sharp := choice(seq(s, s), seq(s, s), seq(one(0xdf, 0x1e9e)))
	check(t, []want{
		{"\u00df", full, []api.Node{sharp}}, {"\u1e9e", full, []api.Node{sharp}}, {"[\u00df]", full, []api.Node{sharp}}, {"\u00df", simple, []api.Node{one(0xdf, 0x1e9e)}}, {"\u00df", plain, []api.Node{one(0xdf)}}, {"\u00df", canon, []api.Node{one(0xdf)}}, {"a\u00dfb", full, []api.Node{one('A', 'a'), sharp, one('B', 'b')}},
		{"\ufb03", full, []api.Node{choice(seq(f, f, i), seq(one(0xfb03)))}}, {"[\ufb00-\ufb03x]", full, []api.Node{choice(seq(f, f), seq(f, i), seq(f, f, i), seq(set('X', 'X', 'x', 'x', 0xfb00, 0xfb03)))}},
		{"\u00e9", canon, []api.Node{choice(seq(one('e'), one(0x301)), seq(one(0xe9)))}}, {"\u00e9", plain, []api.Node{one(0xe9)}}, {"\u00e9", full, []api.Node{one(0xc9, 0xe9)}}, {"\u00e9", every, []api.Node{choice(seq(one('E', 'e'), one(0x301)), seq(one('E', 'e'), one(0x301)), seq(one(0xc9, 0xe9)))}},
		{"\u1e69", canon, []api.Node{choice(seq(one('s'), one(0x323), one(0x307)), seq(one(0x1e69)))}}, {"\u0130", every, []api.Node{choice(seq(i, one(0x307)), seq(i, one(0x307)), seq(one(0x130)))}}, {"\u212b", canon, []api.Node{choice(seq(one('A'), one(0x30a)), seq(one(0x212b)))}}, {"\u2126", canon, []api.Node{one(0x3a9, 0x2126)}},
		{"[a\u00e9]", canon, []api.Node{choice(seq(one('e'), one(0x301)), seq(one('a', 0xe9)))}}, {"[[^\u00e9]&&\u00e8-\u00ea]", canon, []api.Node{one(0xe8, 0xea)}}, {"[[\u00e9]]", canon, []api.Node{choice(seq(one('e'), one(0x301)), seq(one(0xe9)))}}, {"[[^a]&&\u00e9]", canon, []api.Node{choice(seq(one('e'), one(0x301)), seq(one(0xe9)))}}, {"[\u00e9--\u00e9]", canon, []api.Node{set()}},
	})
}

func TestWhatHasNoTexts(t *testing.T) { // P17.1: a class with Neg, properties, any, and more than MaxMembers texts
	x := props.Load()
	for _, p := range []string{".", `\p{Ll}`, `\P{Nd}`, `\w`, `\W`, `\D`, `\p{sc=Latn}`, `\p{Any}`, `[^a]`, "[^\u0000-\u00de\u00e0-\U0010ffff]", "[^[^\u00e9]]", `[^\x{0}-\x{41}]`, "[^[^\u00df]--x]", `[\x{c0}-\x{1e9e}]`, `[\p{Any}]`, "[[^a]]"} {
		for _, o := range []api.Options{every, {Canon: true}} {
			n, e := lower.Lower(x, parsed(t, p), o)
			if e != api.OK || len(n.Kids) != 1 || n.Kids[0].Kind != api.NodeSet {
				t.Errorf("%s with %+v: %v, %v, want a set alone", p, o, n, e)
			}
		}
	}
	if n, e := lower.Lower(x, parsed(t, `[\p{Any}]`), full); e != api.OK || n.Kids[0].Kind != api.NodeGroup || len(n.Kids[0].Kids[0].Kids) != 7 {
		t.Errorf("all full foldings: %v, %v, want six texts and the set", n, e)
	}
	if n, e := lower.Lower(x, parsed(t, `\p{Any}`), full); e != api.OK || n.Kids[0].Kind != api.NodeSet {
		t.Errorf("a property with full foldings: %v, %v, want a set alone", n, e)
	}
}

func TestWhatStays(t *testing.T) { // P17.1: all else, Names too
	a := one('A', 'a')
	check(t, []want{
		{`^$\A\z\b\B\b{g}\B{g}\b{w}\B{w}\X`, every, []api.Node{assertion(1), assertion(2), assertion(3), assertion(4), assertion(5), assertion(6), assertion(7), assertion(8), assertion(9), assertion(10), cluster}},
		{`(?<n>a)(a)\k<n>(?<_1>)\2`, simple, []api.Node{group(1, "n", seq(a)), group(2, "", seq(a)), back(1), group(3, "_1", seq()), back(2)}},
		{`(?:a)(?=a)(?!a)(?<=a)(?<!a)(?>a)`, simple, []api.Node{group(0, "", seq(a)), look(api.Ahead, seq(a)), look(api.NotAhead, seq(a)), look(api.Behind, seq(a)), look(api.NotBehind, seq(a)), atomic(seq(a))}},
		{`a*a+?a?+a{2}a{3,}+a{4,5}?\X{0,100}`, simple, []api.Node{times(0, -1, 0, a), times(1, -1, 1, a), times(0, 1, 2, a), times(2, 2, 0, a), times(3, -1, 2, a), times(4, 5, 1, a), times(0, 100, 0, cluster)}},
		{`(a|(?:|a)||(a)*)`, simple, []api.Node{group(1, "", alt(seq(a), seq(group(0, "", alt(seq(), seq(a)))), seq(), seq(times(0, -1, 0, group(2, "", seq(a))))))}},
		{"\u00e9{2}", canon, []api.Node{times(2, 2, 0, choice(seq(one('e'), one(0x301)), seq(one(0xe9))))}},
		{"(?<=(?<n>\u00df))", full, []api.Node{look(api.Behind, seq(group(1, "n", seq(choice(seq(one('S', 's', 0x17f), one('S', 's', 0x17f)), seq(one('S', 's', 0x17f), one('S', 's', 0x17f)), seq(one(0xdf, 0x1e9e)))))))}},
	})
	x := props.Load()
	for _, o := range allOptions() {
		got, e := lower.Lower(x, parsed(t, `1|2|`), o)
		if want := alt(seq(one('1')), seq(one('2')), seq()); e != api.OK || !tree.Same(got, want) {
			t.Errorf("alternatives with %+v: %v, %v, want %v", o, got, e, want)
		}
		still := parsed(t, `(?<n>^|\X{2,3}?)(?:(?=$)|(?>\b)|\k{1})`)
		if got, e := lower.Lower(x, still, o); e != api.OK || !tree.Same(got, still) {
			t.Errorf("without items, with %+v: %v, %v, want %v", o, got, e, still)
		}
	}
}

func TestErrors(t *testing.T) { // P17.1
	x := props.Load()
	expect := func(what string, tables *props.Tables, n api.Node, o api.Options, want api.Errno) {
		t.Helper()
		if got, e := lower.Lower(tables, n, o); e != want || !tree.Same(got, api.Node{}) {
			t.Errorf("%s: %v, %v, want %v", what, got, e, want)
		}
	}
	trees := []api.Node{seq(), seq(char('a')), alt(seq(), seq())}
	wrong := []api.Node{
		{}, char('a'), {Kind: api.NodeAny}, {Kind: api.NodeChar}, one('a'), seq(one('a')), cluster, alt(), alt(seq()), group(0, "", seq()), seq(seq()), seq(char(-1)), seq(char(0xd800)), seq(char(api.MaxRune + 1)),
		seq(api.Node{Kind: api.NodeProp, Name: "zz"}), seq(api.Node{Kind: api.NodeProp, Name: "gc=zz"}), seq(api.Node{Kind: api.NodeProp, Name: "Lu"}), seq(of(api.NodeClass)), seq(api.Node{Kind: api.NodeClass, Mode: api.Meet, Kids: []api.Node{char('a'), char('b')}}), seq(api.Node{Kind: api.NodeRange, A: 'a', B: 'b'}),
		seq(times(3, 2, 0, char('a'))), seq(times(0, 101, 0, char('a'))), seq(times(0, 1, 3, char('a'))), seq(times(0, 1, 0, times(0, 1, 0, char('a')))), seq(back(1)), seq(group(2, "", seq())), seq(group(0, "n", seq())), seq(look(4, seq())), seq(assertion(0)), seq(assertion(11)), seq(api.Node{Kind: api.NodeChar, A: 'a', B: 1}), {Kind: api.NodeSeq, Set: pairs(1, 2)}, {Kind: api.NodeSeq, Name: "n"}, {Kind: 99}, {Kind: math.MinInt},
		parsedTwice(t, strings.Repeat("a", 1001)),
	}
	for _, none := range []*props.Tables{nil, {}} {
		for _, n := range append(trees, wrong...) {
			expect("no tables", none, n, plain, api.ErrNil)
			expect("no tables and no folding", none, n, api.Options{Fold: 3, Canon: true}, api.ErrNil)
		}
	}
	for _, f := range []int{-1, 3, math.MinInt, math.MaxInt} {
		for _, n := range append(trees, wrong...) {
			expect("a folding that is none", x, n, api.Options{Fold: f}, api.ErrArg)
			expect("a folding that is none, with Canon", x, n, api.Options{Fold: f, Canon: true}, api.ErrArg)
		}
	}
	for _, n := range wrong {
		for _, o := range []api.Options{plain, simple, every} {
			expect(fmt.Sprint(n), x, n, o, api.ErrArg)
		}
	}
	for _, n := range trees {
		for _, o := range allOptions() {
			if _, e := lower.Lower(x, n, o); e != api.OK {
				t.Errorf("%v with %+v: %v", n, o, e)
			}
		}
	}
}

// parsedTwice is a tree that is twice a pattern's.
func parsedTwice(t *testing.T, p string) api.Node {
	n := parsed(t, p)
	return seq(append(slices.Clone(n.Kids), n.Kids...)...)
}

func TestThatLowerEnds(t *testing.T) { // the rule Ends: long patterns, and trees that are greater than what they are made of
	x := props.Load()
	long := strings.Repeat("[\u00c0-\u00e9]", api.MaxPattern/7)
	for _, p := range []string{long, strings.Repeat("\u00e9", api.MaxPattern/2), strings.Repeat("\u00df", api.MaxPattern/2), strings.Repeat(`\w`, api.MaxPattern/2), strings.Repeat("a", api.MaxPattern), strings.Repeat("|", api.MaxPattern)} {
		if n, e := lower.Lower(x, parsed(t, p), every); e != api.OK || !lower.Plain(n) {
			t.Errorf("%.20s: %v", p, e)
		}
	}
	both := seq(char('a'))
	for range 60 {
		both = seq(group(0, "", both), group(0, "", both))
	}
	round := make([]api.Node, 1)
	round[0] = seq(api.Node{Kind: api.NodeAtomic, Kids: round})
	for _, n := range []api.Node{both, round[0]} {
		if _, e := lower.Lower(x, n, every); e != api.ErrArg {
			t.Errorf("a tree without end: %v", e)
		}
	}
}

// lists tells all lists of a node and its kids.
func lists(n *api.Node, sets func(l []api.Range), kids func(l []api.Node)) {
	sets(n.Set[:cap(n.Set)])
	kids(n.Kids[:cap(n.Kids)])
	for i := range n.Kids {
		lists(&n.Kids[i], sets, kids)
	}
}

func TestMemory(t *testing.T) { // the rule Memory
	x := props.Load()
	room := []api.Node{char('k'), group(1, "n", seq(char(0xdf))), {Kind: api.NodeCluster, Kids: make([]api.Node, 0, 3), Set: make([]api.Range, 0, 3)}, {Kind: api.NodeProp, Name: "d"}, char(0xdf), char('z'), char('y')}
	n := seq(room[:5]...)
	n.Set = make([]api.Range, 0, 5)
	was := fmt.Sprint(room, n.Set[:5], room[2].Set[:3], room[2].Kids[:3])
	for _, o := range []api.Options{plain, canon, simple, full, every} {
		first, e := lower.Lower(x, n, o)
		if e != api.OK {
			t.Fatal(e)
		}
		kept := fmt.Sprint(first)
		second, _ := lower.Lower(x, n, o)
		ranged, nodes := map[*api.Range]int{}, map[*api.Node]int{}
		for _, answer := range []*api.Node{&first, &second, &n} {
			lists(answer, func(l []api.Range) {
				for i := range l {
					ranged[&l[i]]++
				}
			}, func(l []api.Node) {
				for i := range l {
					nodes[&l[i]]++
				}
			})
		}
		for _, count := range ranged {
			if count > 1 {
				t.Errorf("with %+v a list of ranges is shared", o)
			}
		}
		for _, count := range nodes {
			if count > 1 {
				t.Errorf("with %+v a list of nodes is shared", o)
			}
		}
		var wipe []func()
		lists(&second, func(l []api.Range) { wipe = append(wipe, func() { clear(l) }) }, func(l []api.Node) { wipe = append(wipe, func() { clear(l) }) })
		for _, f := range wipe {
			f()
		}
		third, _ := lower.Lower(x, n, o)
		if fmt.Sprint(first) != kept || fmt.Sprint(third) != kept {
			t.Errorf("with %+v: %v and %v, want %v", o, first, third, kept)
		}
		lower.Plain(first)
		if fmt.Sprint(first) != kept {
			t.Errorf("Plain made %v of %v", first, kept)
		}
	}
	if now := fmt.Sprint(room, n.Set[:5], room[2].Set[:3], room[2].Kids[:3]); now != was {
		t.Errorf("the argument became %v", now)
	}
}
