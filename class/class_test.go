package class_test

import (
	"fmt"
	"math"
	"slices"
	"testing"

	"rubricator/api"
	"rubricator/class"
	"rubricator/decomp"
	"rubricator/props"
	"rubricator/ranges"
)

func char(r int) api.Node { return api.Node{Kind: api.NodeChar, A: r} }

func span(lo, hi int) api.Node { return api.Node{Kind: api.NodeRange, A: lo, B: hi} }

func prop(name string) api.Node { return api.Node{Kind: api.NodeProp, Name: name} }

func of(mode int, l ...api.Node) api.Node {
	return api.Node{Kind: api.NodeClass, Mode: mode, Kids: l}
}

func union(l ...api.Node) api.Node { return of(api.Union, l...) }

func not(n api.Node) api.Node {
	n.Neg = true
	return n
}

var dot = api.Node{Kind: api.NodeAny}

// pairs is ranges by their ends, two by two.
func pairs(l ...int) []api.Range {
	var out []api.Range
	for i := 0; i < len(l); i += 2 {
		out = append(out, api.Range{Lo: l[i], Hi: l[i+1]})
	}
	return out
}

var (
	plain  = api.Options{}
	canon  = api.Options{Canon: true}
	simple = api.Options{Fold: api.FoldSimple}
	full   = api.Options{Fold: api.FoldFull}
	both   = api.Options{Canon: true, Fold: api.FoldSimple}
	every  = api.Options{Canon: true, Dot: true, Multi: true, Fold: api.FoldFull}
)

// want is a node, how it is meant, and its set.
type want struct {
	n   api.Node
	o   api.Options
	set []api.Range
}

func check(t *testing.T, l []want) {
	t.Helper()
	x := props.Load()
	for _, c := range l {
		if got, e := class.Set(x, c.n, c.o); e != api.OK || !slices.Equal(got, c.set) {
			t.Errorf("Set(%v, %+v) = %x, %v, want %x", c.n, c.o, got, e, c.set)
		}
	}
}

func TestLeaves(t *testing.T) { // P16.1
	check(t, []want{
		{char('a'), plain, pairs('a', 'a')}, {char(0), plain, pairs(0, 0)}, {char(api.MaxRune), plain, pairs(api.MaxRune, api.MaxRune)}, {char(0xd800), plain, pairs(0xd800, 0xd800)}, {char(-1), plain, nil}, {char(api.MaxRune + 1), every, nil}, {char(math.MinInt), simple, nil}, {char(math.MaxInt), canon, nil}, {char(1<<32 + 'a'), simple, nil},
		{span('a', 'z'), plain, pairs('a', 'z')}, {span('a', 'a'), plain, pairs('a', 'a')}, {span('b', 'a'), every, nil}, {span(-5, 5), plain, pairs(0, 5)}, {span(math.MinInt, math.MaxInt), every, pairs(0, api.MaxRune)}, {span(0x10fff0, math.MaxInt), plain, pairs(0x10fff0, api.MaxRune)}, {span(-9, -3), plain, nil}, {span(api.MaxRune+1, math.MaxInt), simple, nil}, {span(0xd7ff, 0xe000), plain, pairs(0xd7ff, 0xe000)},
		{not(char('a')), plain, pairs('a', 'a')}, {not(span('a', 'b')), plain, pairs('a', 'b')}, {not(span('b', 'a')), plain, nil},
		{api.Node{Kind: api.NodeChar, A: 'a', B: 'z', Mode: 7, Name: "zz", Set: pairs(1, 2)}, plain, pairs('a', 'a')}, {api.Node{Kind: api.NodeRange, A: 'a', B: 'b', Mode: -1, Name: "zz"}, plain, pairs('a', 'b')}, {api.Node{Kind: api.NodeProp, A: 'a', Mode: 9, Name: "ASCII", Set: pairs(300, 400)}, plain, pairs(0, 127)},
	})
}

func TestFoldingAndCanon(t *testing.T) { // P16.1: a leaf's set, with Canon and with folding
	check(t, []want{
		{char('s'), simple, pairs('S', 'S', 's', 's', 0x17f, 0x17f)}, {char('K'), simple, pairs('K', 'K', 'k', 'k', 0x212a, 0x212a)}, {char('k'), full, pairs('K', 'K', 'k', 'k', 0x212a, 0x212a)}, {char(0xdf), simple, pairs(0xdf, 0xdf, 0x1e9e, 0x1e9e)}, {char(0xdf), full, pairs(0xdf, 0xdf, 0x1e9e, 0x1e9e)}, {char('1'), full, pairs('1', '1')}, {span('Y', '['), simple, pairs('Y', '[', 'y', 'z')}, {not(char('y')), simple, pairs('Y', 'Y', 'y', 'y')},
		{char(0x212a), plain, pairs(0x212a, 0x212a)}, {char(0x212a), canon, pairs('K', 'K', 0x212a, 0x212a)}, {char('K'), canon, pairs('K', 'K')}, {char(0x2126), canon, pairs(0x3a9, 0x3a9, 0x2126, 0x2126)}, {char(0x212b), canon, pairs(0x212b, 0x212b)}, {char(0xc5), canon, pairs(0xc5, 0xc5)}, {char(0xe9), canon, pairs(0xe9, 0xe9)}, {span(0x2120, 0x212f), canon, pairs('K', 'K', 0x3a9, 0x3a9, 0x2120, 0x212f)}, {char(0xac00), canon, pairs(0xac00, 0xac00)},
		{char(0x212a), both, pairs('K', 'K', 'k', 'k', 0x212a, 0x212a)}, {char(0x2126), both, pairs(0x3a9, 0x3a9, 0x3c9, 0x3c9, 0x2126, 0x2126)}, {char(0x2126), every, pairs(0x3a9, 0x3a9, 0x3c9, 0x3c9, 0x2126, 0x2126)}, {char(0x3c9), both, pairs(0x3a9, 0x3a9, 0x3c9, 0x3c9, 0x2126, 0x2126)}, {char(0x212b), both, pairs(0xc5, 0xc5, 0xe5, 0xe5, 0x212b, 0x212b)},
		{union(char('k'), char('1')), simple, pairs('1', '1', 'K', 'K', 'k', 'k', 0x212a, 0x212a)}, {of(api.Minus, union(char('k')), union(char('K'))), simple, nil}, {of(api.Minus, union(char('k')), union(char('K'))), plain, pairs('k', 'k')}, {of(api.Meet, union(char(0x212a)), union(char('K'))), canon, pairs('K', 'K')}, {of(api.Xor, union(char(0x212a)), union(char('K'))), canon, pairs(0x212a, 0x212a)}, {not(union(char('k'))), simple, ranges.Not(pairs('K', 'K', 'k', 'k', 0x212a, 0x212a))},
	})
}

func TestProperties(t *testing.T) { // P16.1
	x := props.Load()
	set := func(s string) []api.Range {
		l, e := x.Set(s)
		if e != api.OK {
			t.Fatal(s, e)
		}
		return l
	}
	space := pairs(9, 0xd, 0x20, 0x20, 0x85, 0x85, 0xa0, 0xa0, 0x2028, 0x2029)
	var words []api.Range
	for _, c := range []string{"L", "M", "Nl", "Nd", "Pc"} {
		words = ranges.Union(words, set("gc="+c))
	}
	check(t, []want{
		{prop("d"), plain, pairs('0', '9', 0x660, 0x669)}, {not(prop("d")), plain, ranges.Not(pairs('0', '9', 0x660, 0x669))}, {prop("s"), plain, space}, {not(prop("s")), plain, ranges.Not(space)}, {prop("w"), plain, words}, {not(prop("w")), plain, ranges.Not(words)}, {prop("w"), every, words},
		{prop("S"), plain, set("gc=S")}, {prop("gc=Lu"), plain, set("Lu")}, {prop("sc=Grek"), plain, set("Greek")}, {prop("space"), plain, space}, {prop("Any"), plain, pairs(0, api.MaxRune)}, {not(prop("Any")), plain, nil}, {prop("ASCII"), plain, pairs(0, 0x7f)}, {prop("general category = uppercase-letter"), plain, set("Lu")}, {prop("Script:greek"), plain, set("Greek")}, {prop("Nl"), plain, pairs(0x2160, 0x2163)},
		{prop("ASCII"), simple, pairs(0, 0x7f, 0x17f, 0x17f, 0x212a, 0x212a)}, {not(prop("ASCII")), full, ranges.Not(pairs(0, 0x7f, 0x17f, 0x17f, 0x212a, 0x212a))}, {prop("sc=Grek"), canon, set("Greek")}, {prop("sc=Latn"), canon, set("Latin")}, {union(not(prop("ASCII")), prop("ASCII")), simple, pairs(0, api.MaxRune)}, {of(api.Minus, union(prop("ASCII")), union(not(prop("d")))), plain, pairs('0', '9')},
	})
	for _, o := range []api.Options{simple, full, both} { // of unlike sizes nothing is left
		upper, e := class.Set(x, prop("gc=Lu"), o)
		if e != api.OK || !ranges.Has(upper, 'a') || !ranges.Has(upper, 0x17f) || ranges.Has(upper, '1') {
			t.Errorf("Lu with %+v: %x, %v", o, upper, e)
		}
		if got, e := class.Set(x, not(prop("gc=Lu")), o); e != api.OK || !slices.Equal(got, ranges.Not(upper)) || ranges.Has(got, 'a') {
			t.Errorf("all but Lu with %+v: %x, %v", o, got, e)
		}
	}
}

func TestAny(t *testing.T) { // P16.1
	ends := pairs(0xa, 0xa, 0xd, 0xd, 0x85, 0x85, 0x2028, 0x2029)
	for _, o := range []api.Options{plain, canon, simple, full, both, {Multi: true}} {
		check(t, []want{{dot, o, ranges.Not(ends)}, {not(dot), o, ranges.Not(ends)}, {union(dot, char(0xd)), o, ranges.Not(pairs(0xa, 0xa, 0x85, 0x85, 0x2028, 0x2029))}, {not(union(dot)), o, ends}})
		o.Dot = true
		check(t, []want{{dot, o, pairs(0, api.MaxRune)}, {not(dot), o, pairs(0, api.MaxRune)}, {not(union(dot)), o, nil}, {of(api.Minus, dot, span('b', api.MaxRune)), o, ranges.Minus(pairs(0, 'a'), widened(t, span('b', api.MaxRune), o))}})
	}
}

// widened is a leaf's set.
func widened(t *testing.T, n api.Node, o api.Options) []api.Range {
	t.Helper()
	l, e := class.Set(props.Load(), n, o)
	if e != api.OK {
		t.Fatal(e)
	}
	return l
}

func TestClasses(t *testing.T) { // P16.1
	az, vowels := span('a', 'z'), union(char('a'), char('e'), char('i'), char('o'), char('u'))
	check(t, []want{
		{of(api.Minus, union(az), union(vowels)), plain, pairs('b', 'd', 'f', 'h', 'j', 'n', 'p', 't', 'v', 'z')},
		{union(), plain, nil}, {not(union()), plain, pairs(0, api.MaxRune)}, {union(char('b'), char('a'), span('a', 'c'), char('x')), plain, pairs('a', 'c', 'x', 'x')}, {union(char('a'), char('b')), plain, pairs('a', 'b')}, {not(union(char('a'))), plain, pairs(0, 'a'-1, 'b', api.MaxRune)}, {not(not(union(char('a')))), plain, pairs(0, 'a'-1, 'b', api.MaxRune)}, {not(union(not(union(char('a'))))), plain, pairs('a', 'a')}, {union(union(union(char('a'))), char('c')), plain, pairs('a', 'a', 'c', 'c')},
		{of(api.Meet, union(az), union(span('x', '~'))), plain, pairs('x', 'z')}, {of(api.Meet, az, span('x', '~')), plain, pairs('x', 'z')}, {of(api.Meet, char('a'), char('b')), plain, nil}, {not(of(api.Meet, az, az)), plain, ranges.Not(pairs('a', 'z'))}, {of(api.Minus, az, span('b', 'y')), plain, pairs('a', 'a', 'z', 'z')}, {of(api.Minus, span('b', 'y'), az), plain, nil}, {of(api.Xor, span('a', 'm'), span('k', 'z')), plain, pairs('a', 'j', 'n', 'z')}, {not(of(api.Xor, az, az)), plain, pairs(0, api.MaxRune)},
		{of(api.Minus, of(api.Meet, az, span('c', 'x')), char('d')), plain, pairs('c', 'c', 'e', 'x')}, {of(api.Minus, az, of(api.Minus, az, char('d'))), plain, pairs('d', 'd')}, {of(api.Minus, not(union(az)), not(union(span('a', 'y')))), plain, nil}, {of(api.Minus, not(union(span('a', 'y'))), not(union(az))), plain, pairs('z', 'z')},
		{api.Node{Kind: api.NodeClass, A: 'x', B: 'y', Name: "zz", Set: pairs(1, 2), Kids: []api.Node{char('a')}}, plain, pairs('a', 'a')},
	})
}

func TestErrors(t *testing.T) { // P16.1
	x := props.Load()
	expect := func(what string, t0 *props.Tables, n api.Node, o api.Options, want api.Errno) {
		t.Helper()
		if l, e := class.Set(t0, n, o); e != want || len(l) != 0 {
			t.Errorf("%s: %x, %v, want %v", what, l, e, want)
		}
	}
	for _, none := range []*props.Tables{nil, {}} {
		for _, n := range []api.Node{char('a'), {}, prop("zz"), dot, union(), of(9)} {
			expect("no tables", none, n, plain, api.ErrNil)
			expect("no tables and no folding", none, n, api.Options{Fold: 3}, api.ErrNil)
		}
	}
	for _, f := range []int{-1, 3, math.MinInt, math.MaxInt} {
		for _, n := range []api.Node{char('a'), dot, union(), {}, prop("zz")} {
			expect("a folding that is none", x, n, api.Options{Fold: f}, api.ErrArg)
		}
	}
	wrong := map[string]api.Node{"no sides": of(api.Meet), "one side": of(api.Minus, char('a')), "three sides": of(api.Xor, char('a'), char('b'), char('c')), "a mode below": of(-1, char('a'), char('b')), "a mode above": of(4, char('a'), char('b')), "a mode above of none": of(4), "a great mode": of(math.MaxInt)}
	for _, kind := range []int{math.MinInt, -1, 0, api.NodeSeq, api.NodeAlt, api.NodeRepeat, api.NodeGroup, api.NodeLook, api.NodeAtomic, api.NodeAssert, api.NodeBack, api.NodeCluster, api.NodeSet, 16, math.MaxInt} {
		wrong[fmt.Sprint("kind ", kind)] = api.Node{Kind: kind, Set: pairs(1, 2), Kids: []api.Node{char('a'), char('b')}}
		wrong[fmt.Sprint("kind ", kind, " alone")] = api.Node{Kind: kind}
	}
	for what, n := range wrong {
		leaf := char('a')
		leaf.Kids = []api.Node{n}
		for _, y := range []api.Node{n, not(n), union(n), union(char('a'), n), union(union(n, char('a'))), of(api.Meet, n, char('a')), of(api.Minus, char('a'), n), of(api.Xor, of(api.Meet, char('a'), union(n)), char('b')), leaf, union(prop("zz"), n), union(n, prop("gc=zz")), of(api.Minus, prop("zz"), union(n))} {
			expect(what, x, y, plain, api.ErrArg)
			expect(what, x, y, every, api.ErrArg)
		}
	}
	for _, o := range []api.Options{plain, every} {
		for _, name := range []string{"", "zz", "D", "W", "dd", "d ", " ", "x=L", "=", "\xff", "gc", `\d`} {
			expect("the name "+name, x, prop(name), o, api.ErrName)
			expect("the name "+name, x, not(union(char('a'), not(prop(name)), prop("gc=zz"))), o, api.ErrName)
		}
		for _, name := range []string{"gc=", "gc=zz", "sc=Lu", "gc=d", "Script:Zz"} {
			expect("the value "+name, x, prop(name), o, api.ErrValue)
			expect("the value "+name, x, of(api.Meet, union(prop("d"), union(prop(name))), prop("zz")), o, api.ErrValue)
		}
		expect("both, the left one first", x, of(api.Minus, prop("zz"), prop("gc=zz")), o, api.ErrName)
		expect("both, the right one second", x, of(api.Xor, prop("gc=zz"), prop("zz")), o, api.ErrValue)
	}
}

func TestMemory(t *testing.T) { // the rule Memory
	x := props.Load()
	room := []api.Node{char('a'), prop("space"), span('b', 'd'), char('z')}
	n := union(room[:3]...)
	was := fmt.Sprint(room)
	for _, y := range []api.Node{n, not(n), room[0], room[1], room[2], dot, of(api.Meet, n, n), union(prop("sc=Grek"))} {
		for _, o := range []api.Options{plain, canon, simple, every} {
			first, _ := class.Set(x, y, o)
			kept := fmt.Sprint(first)
			second, _ := class.Set(x, y, o)
			clear(second[:cap(second)])
			third, _ := class.Set(x, y, o)
			if fmt.Sprint(first) != kept || fmt.Sprint(third) != kept || fmt.Sprint(room) != was {
				t.Errorf("Set(%v, %+v) shares memory", y, o)
			}
		}
	}
	a := pairs(0xdf, 0xe2, 0x130, 0x130, 'z', 'a', -5, 3)
	was = fmt.Sprint(a)
	first := class.Texts(x, a[:3], every)
	kept := fmt.Sprint(first)
	for _, l := range class.Texts(x, a[:3], every) {
		clear(l[:cap(l)])
	}
	for i, l := range first {
		l = l[:cap(l)]
		for k := len(first[i]); k < len(l); k++ {
			l[k] = -1
		}
	}
	if fmt.Sprint(first) != kept || fmt.Sprint(class.Texts(x, a[:3], every)) != kept || fmt.Sprint(a) != was {
		t.Errorf("Texts shares memory: %v, %v", first, a)
	}
}

func TestTexts(t *testing.T) { // P16.2
	x := props.Load()
	ss, ff := []int{'s', 's'}, []int{'f', 'f'}
	canonFull, all := api.Options{Canon: true, Fold: api.FoldFull}, pairs(0, api.MaxRune)
	for _, c := range []struct {
		a    []api.Range
		o    api.Options
		want [][]int
	}{
		{pairs(0xdf, 0xe0), canonFull, [][]int{ss, {'a', 0x300}}}, {pairs(0xdf, 0xe0), canon, [][]int{{'a', 0x300}}}, {pairs(0xdf, 0xe0), full, [][]int{ss}}, {pairs(0xdf, 0xe0), plain, nil}, {pairs(0xdf, 0xe0), simple, nil}, {pairs(0xdf, 0xe0), both, [][]int{{'a', 0x300}}}, {pairs(0xdf, 0xe0), every, [][]int{ss, {'a', 0x300}}}, {pairs(0xdf, 0xdf), api.Options{Fold: 3}, nil}, {pairs(0xdf, 0xdf), api.Options{Fold: -1}, nil}, {pairs(0xe0, 0xe0), api.Options{Fold: 3, Canon: true}, [][]int{{'a', 0x300}}},
		{pairs(0x130, 0x130), canonFull, [][]int{{'I', 0x307}, {'i', 0x307}}}, {pairs(0x130, 0x130), full, [][]int{{'i', 0x307}}}, {pairs(0xdf, 0xdf, 0x1e9e, 0x1e9e), full, [][]int{ss, ss}}, {pairs(0xfb00, 0xfb06), canonFull, [][]int{ff, {'f', 'i'}, {'f', 'f', 'i'}}}, {pairs(0x1e60, 0x1ea0), canonFull, [][]int{{'S', 0x323}, {'s', 0x323}, {'S', 0x323, 0x307}, {'s', 0x323, 0x307}, ss}},
		{pairs(0xfb00, 0xfb00, 0xdf, 0xdf), full, [][]int{ss, ff}}, {pairs(0xdf, 0xdf, 0xd0, 0xdf, 0xdf, 0xe0), full, [][]int{ss}}, {pairs(0xe0, 0xdf), canonFull, nil}, {pairs(math.MinInt, -1, api.MaxRune+1, math.MaxInt), canonFull, nil}, {nil, canonFull, nil}, {pairs(0xfb03, math.MaxInt), full, [][]int{{'f', 'f', 'i'}}}, {pairs(math.MinInt, 0x100), full, [][]int{ss}},
		{pairs(0x212b, 0x212b), canon, [][]int{{'A', 0x30a}}}, {pairs(0x2126, 0x212a), canonFull, nil}, {pairs(0xac00, 0xd7a3), canonFull, nil}, {pairs('a', 'z'), canonFull, nil}, {pairs(0x344, 0x344), canonFull, [][]int{{0x308, 0x301}}},
		{all, full, [][]int{ss, {'i', 0x307}, ss, ff, {'f', 'i'}, {'f', 'f', 'i'}}}, {all, canon, nil}, {all, canonFull, nil}, {all, plain, nil},
	} {
		if got := class.Texts(x, c.a, c.o); !slices.EqualFunc(got, c.want, slices.Equal[[]int]) {
			t.Errorf("Texts(%x, %+v) = %x, want %x", c.a, c.o, got, c.want)
		}
	}
	for _, none := range []*props.Tables{nil, {}} {
		for _, o := range []api.Options{plain, full, every} {
			if l := class.Texts(none, pairs(0xdf, 0xe0), o); len(l) != 0 {
				t.Errorf("without tables: %x", l)
			}
		}
	}
}

func TestHowManyTexts(t *testing.T) { // P16.2: MaxMembers
	x := props.Load()
	members := decomp.Members(x)
	foldings := []int{0xdf, 0x130, 0x1e9e, 0xfb00, 0xfb01, 0xfb03}
	for n := range len(members) + 1 {
		for k := range len(foldings) + 1 {
			var a []api.Range
			for _, r := range slices.Concat(members[len(members)-n:], foldings[:k]) { // 130 is one of both, and counts twice
				a = append(a, api.Range{Lo: r, Hi: r})
			}
			decomposed, folded := n, k
			if k > 1 && !slices.Contains(members[len(members)-n:], 0x130) {
				decomposed++
			}
			if k < 2 && slices.Contains(members[len(members)-n:], 0x130) {
				folded++
			}
			for o, want := range map[api.Options]int{canon: decomposed, full: folded, every: decomposed + folded, plain: 0, simple: 0} {
				if want > api.MaxMembers {
					want = 0
				}
				if l := class.Texts(x, a, o); len(l) != want {
					t.Errorf("%d members and %d foldings with %+v: %d texts, want %d", n, k, o, len(l), want)
				}
			}
		}
	}
}
