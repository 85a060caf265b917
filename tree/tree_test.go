package tree_test

import (
	"fmt"
	"math"
	"strings"
	"testing"

	"rubricator/api"
	"rubricator/token"
	"rubricator/tree"
)

func char(r int) api.Node { return api.Node{Kind: api.NodeChar, A: r} }

func span(lo, hi int) api.Node { return api.Node{Kind: api.NodeRange, A: lo, B: hi} }

func prop(name string, neg bool) api.Node {
	return api.Node{Kind: api.NodeProp, Name: name, Neg: neg}
}

func seq(l ...api.Node) api.Node { return api.Node{Kind: api.NodeSeq, Kids: l} }

func alt(l ...api.Node) api.Node { return api.Node{Kind: api.NodeAlt, Kids: l} }

func repeat(least, most, mode int, kid api.Node) api.Node {
	return api.Node{Kind: api.NodeRepeat, A: least, B: most, Mode: mode, Kids: []api.Node{kid}}
}

func group(n int, name string, body api.Node) api.Node {
	return api.Node{Kind: api.NodeGroup, A: n, Name: name, Kids: []api.Node{body}}
}

func look(mode int, body api.Node) api.Node {
	return api.Node{Kind: api.NodeLook, Mode: mode, Kids: []api.Node{body}}
}

func atomic(body api.Node) api.Node { return api.Node{Kind: api.NodeAtomic, Kids: []api.Node{body}} }

func assertion(mode int) api.Node { return api.Node{Kind: api.NodeAssert, Mode: mode} }

func back(n int) api.Node { return api.Node{Kind: api.NodeBack, A: n} }

func class(mode int, l ...api.Node) api.Node {
	return api.Node{Kind: api.NodeClass, Mode: mode, Kids: l}
}

func not(n api.Node) api.Node {
	n.Neg = true
	return n
}

var (
	dot     = api.Node{Kind: api.NodeAny}
	cluster = api.Node{Kind: api.NodeCluster}
	letter  = class(api.Union, char('a'))
)

// times puts a node that many times within one another.
func times(n int, inner api.Node, wrap func(i int, body api.Node) api.Node) api.Node {
	for i := range n {
		inner = wrap(n-i, inner)
	}
	return inner
}

func TestPatterns(t *testing.T) { // P14.1
	for _, c := range []struct {
		n    api.Node
		want string
	}{
		{seq(char('a'), char('b')), "ab"}, {seq(), ""}, {alt(seq(), seq()), "|"}, {alt(seq(char('a')), seq(), seq(dot)), "a||."},
		{seq(char('('), char(']'), char('-'), char(0), char(0x7f), char(0xe9), char(api.MaxRune)), `\(]-\x{0}\x{7F}é` + "\U0010ffff"},
		{seq(char('{'), char('2'), char('}')), `\{2}`}, {seq(assertion(api.WordEdge), char('{'), char('g'), char('}')), `\b\{g}`},
		{seq(prop("d", false), prop("w", false), prop("s", false), prop("d", true), prop("w", true), prop("s", true)), `\d\w\s\D\W\S`},
		{seq(prop("gc=Lu", false), prop("sc=Grek", true), prop("space", false), prop("Any", true)), `\p{gc=Lu}\P{sc=Grek}\p{space}\P{Any}`},
		{seq(repeat(0, -1, api.Greedy, dot), repeat(1, -1, api.Lazy, dot), repeat(0, 1, api.Possessive, dot)), ".*.+?.?+"},
		{seq(repeat(2, 2, api.Greedy, dot), repeat(2, -1, api.Lazy, dot), repeat(2, 3, api.Possessive, dot)), ".{2}.{2,}?.{2,3}+"},
		{seq(repeat(0, 0, api.Greedy, dot), repeat(1, 1, api.Greedy, dot), repeat(0, 2, api.Greedy, dot), repeat(1, 2, api.Greedy, dot), repeat(100, 100, api.Greedy, dot), repeat(100, -1, api.Greedy, dot), repeat(0, 100, api.Greedy, dot)), ".{0}.{1}.{0,2}.{1,2}.{100}.{100,}.{0,100}"},
		{seq(group(0, "", seq()), group(1, "", seq(char('a'))), group(2, "n_1", alt(seq(), seq(char('b'))))), "(?:)(a)(?<n_1>|b)"},
		{seq(look(api.Ahead, seq()), look(api.NotAhead, seq(dot)), look(api.Behind, alt(seq(), seq())), look(api.NotBehind, seq()), atomic(seq(char('a')))), "(?=)(?!.)(?<=|)(?<!)(?>a)"},
		{seq(assertion(1), assertion(2), assertion(3), assertion(4), assertion(5), assertion(6), assertion(7), assertion(8), assertion(9), assertion(10)), `^$\A\z\b\B\b{g}\B{g}\b{w}\B{w}`},
		{seq(group(1, "", seq(back(1))), back(1), cluster), `(\k{1})\k{1}\X`}, {seq(group(1, "", seq(group(2, "", seq(back(2), back(1))))), repeat(0, -1, api.Greedy, back(2))), `((\k{2}\k{1}))\k{2}*`},
		{alt(seq(group(1, "a", seq())), seq(back(1), group(2, "A", seq(group(3, "", seq()))), group(4, "", seq()))), `(?<a>)|\k{1}(?<A>())()`},
		{seq(look(api.Behind, seq(group(1, "", seq()))), atomic(seq(group(2, "", seq()), group(0, "", seq(group(3, "", seq()))))), back(3)), `(?<=())(?>()(?:()))\k{3}`},
		{seq(repeat(0, -1, 0, char('a')), repeat(0, -1, 0, letter), repeat(0, -1, 0, prop("d", true)), repeat(0, -1, 0, group(0, "", seq())), repeat(0, -1, 0, group(1, "", seq())), repeat(0, -1, 0, atomic(seq())), repeat(0, -1, 0, back(1)), repeat(0, -1, 0, cluster), repeat(0, -1, 0, char('*'))), `a*[a]*\D*(?:)*()*(?>)*\k{1}*\X*\**`},
		{seq(letter, not(letter)), "[a][^a]"}, {seq(class(api.Union, char('^'), char('-'), char('.'), char('['), char(']'), char('&'), char('~'), char('\\'), char('\n'))), `[\^\-.\[\]\&\~\\\x{A}]`},
		{seq(class(api.Union, span('a', 'z'), span('-', '-'), span(0, api.MaxRune), span(0xd7ff, 0xe000), prop("d", true), prop("gc=Lu", false), letter, not(letter))), "[a-z\\--\\-\\x{0}-\U0010ffff\ud7ff-\ue000\\D\\p{gc=Lu}[a][^a]]"},
		{seq(class(api.Meet, letter, letter), class(api.Minus, letter, letter), not(class(api.Xor, letter, letter))), "[a&&a][a--a][^a~~a]"},
		{seq(class(api.Minus, class(api.Meet, letter, class(api.Union, span('b', 'c'))), class(api.Union, prop("w", false), char('-')))), `[a&&b-c--\w\-]`},
		{seq(class(api.Minus, class(api.Union, class(api.Meet, letter, letter)), class(api.Union, not(class(api.Xor, letter, letter))))), "[[a&&a]--[^a~~a]]"},
		{seq(class(api.Union, letter)), "[[a]]"}, {seq(class(api.Meet, class(api.Union, not(letter)), class(api.Union, letter, letter))), "[[^a]&&[a][a]]"},
	} {
		if s, e := tree.Print(c.n); s != c.want || e != api.OK || !tree.Can(c.n) {
			t.Errorf("Print(%v) = %q, %v, want %q", c.n, s, e, c.want)
		}
	}
}

// refused checks that a node is no tree.
func refused(t *testing.T, what string, n api.Node) {
	t.Helper()
	if s, e := tree.Print(n); s != "" || e != api.ErrArg || tree.Can(n) {
		t.Errorf("%s: Print = %q, %v, Can = %v", what, s, e, tree.Can(n))
	}
}

// allowed checks that it is one.
func allowed(t *testing.T, what string, n api.Node) {
	t.Helper()
	if _, e := tree.Print(n); e != api.OK || !tree.Can(n) {
		t.Errorf("%s: Print = %v, Can = %v", what, e, tree.Can(n))
	}
}

func TestWhatIsNoTree(t *testing.T) { // P14.1
	for what, n := range map[string]api.Node{
		"nothing": {}, "a part": char('a'), "a group": group(1, "", seq()), "a class": letter, "a repetition": repeat(0, 1, 0, dot), "a kind below": {Kind: -1}, "a kind above": {Kind: 16}, "a set": {Kind: api.NodeSet}, "a range": span('a', 'b'),
		"no alternative": alt(), "one alternative": alt(seq()), "alternatives of parts": alt(char('a'), char('b')), "of alternatives": alt(seq(), alt(seq(), seq())), "of nothing": alt(seq(), api.Node{}),
	} {
		refused(t, what, n)
	}
	for what, n := range map[string]api.Node{ // within a sequence
		"nothing": {}, "a sequence": seq(), "alternatives": alt(seq(), seq()), "a range": span('a', 'b'), "a set": {Kind: api.NodeSet, Set: []api.Range{{Lo: 1, Hi: 2}}}, "an empty set": {Kind: api.NodeSet}, "a kind below": {Kind: math.MinInt}, "a kind above": {Kind: math.MaxInt},
		"no code point": char(-1), "a code point above": char(api.MaxRune + 1), "a surrogate": char(0xd800), "another": char(0xdfff), "a number": char(math.MaxInt),
		"no property": prop("", false), "an upper one": prop("D", false), "a word": prop("word", false), "a long value": prop("gc=Uppercase_Letter", false), "a value in small letters": prop("gc=lu", false), "without its property": prop("Lu", false), "by a colon": prop("gc:Lu", false), "by a long property": prop("General_Category=Lu", false), "a blank": prop("gc=Lu ", false), "a long script": prop("sc=Greek", true), "a script alone": prop("Grek", true), "of another kind": prop("sc=Lu", false), "a long one of bi": prop("White_Space", false), "of bi in great letters": prop("Space", false), "of bi with a property": prop("bi=space", false), "a backslash": prop(`\d`, false), "a brace": prop("gc=Lu}", false), "another pattern": prop("gc=Lu}a", false), "a bad byte": prop("\xff", false), "a long one": prop(strings.Repeat("x", 1<<16), false), "d twice": prop("dd", false),
		"a look's mode below": look(-1, seq()), "a look's mode above": look(4, seq()), "a look of a part": look(0, dot), "a look of nothing": {Kind: api.NodeLook}, "a look of two": {Kind: api.NodeLook, Kids: []api.Node{seq(), seq()}},
		"an atomic of a part": atomic(dot), "an atomic of nothing": {Kind: api.NodeAtomic}, "an atomic of two": {Kind: api.NodeAtomic, Kids: []api.Node{seq(), seq()}},
		"no assertion": assertion(0), "an assertion below": assertion(-1), "an assertion above": assertion(11), "a great one": assertion(math.MaxInt),
		"a group of a part": group(1, "", dot), "a group of nothing": {Kind: api.NodeGroup, A: 1}, "a group of two": {Kind: api.NodeGroup, A: 1, Kids: []api.Node{seq(), seq()}}, "a plain group of a part": group(0, "", dot), "a group's part": group(1, "", seq(span('a', 'b'))), "one alternative": group(1, "", alt(seq())),
	} {
		refused(t, what, seq(n))
		refused(t, what+" behind", alt(seq(char('a')), seq(char('b'), n)))
		refused(t, what+" within", seq(look(0, seq(n))))
	}
}

func TestGroupsOfTrees(t *testing.T) { // P14.1
	empty := seq()
	for what, n := range map[string]api.Node{
		"the second first": seq(group(2, "", empty)), "the first twice": seq(group(1, "", empty), group(1, "", empty)), "one left out": seq(group(1, "", empty), group(3, "", empty)), "below": seq(group(-1, "", empty)), "the least": seq(group(math.MinInt, "", empty)), "the greatest": seq(group(math.MaxInt, "", empty)), "the inner one first": seq(group(2, "", seq(group(1, "", empty)))), "not as they begin": alt(seq(group(2, "", empty)), seq(group(1, "", empty))),
		"a name without a number": seq(group(0, "n", empty)), "a digit": seq(group(1, "1n", empty)), "a dash": seq(group(1, "a-b", empty)), "a blank": seq(group(1, " ", empty)), "a mark": seq(group(1, "=", empty)), "marks": seq(group(1, "!)", empty)), "an end": seq(group(1, "n>", empty)), "more": seq(group(1, "n>a", empty)), "no letter": seq(group(1, "é", empty)), "a bad byte": seq(group(1, "\xff", empty)), "too long": seq(group(1, strings.Repeat("x", 21), empty)), "far too long": seq(group(1, strings.Repeat("x", 1<<16), empty)),
		"a name twice": seq(group(1, "n", empty), group(2, "n", empty)), "a name twice within": seq(group(1, "n", seq(group(2, "m", empty), group(3, "n", empty)))), "a name twice apart": alt(seq(group(1, "n", empty)), seq(group(2, "", empty), group(3, "n", empty))),
		"back without a group": seq(back(1)), "back to 0": seq(group(1, "", empty), back(0)), "back below": seq(group(1, "", empty), back(-1)), "back to what comes": seq(back(1), group(1, "", empty)), "back to none": seq(group(1, "", empty), back(2)), "back within to what comes": seq(group(1, "", seq(back(2), group(2, "", empty)))), "back to a plain one": seq(group(0, "", empty), back(1)), "back far": seq(group(1, "", empty), back(math.MaxInt)),
	} {
		refused(t, what, n)
	}
	allowed(t, "names of 20 bytes", seq(group(1, strings.Repeat("x", 20), empty), group(2, strings.Repeat("x", 19)+"_", empty)))
	row := func(n int) api.Node {
		var l []api.Node
		for i := range n {
			l = append(l, group(i+1, "", seq(group(0, "", empty))), look(0, empty))
		}
		return seq(l...)
	}
	allowed(t, "MaxGroups groups", row(api.MaxGroups))
	refused(t, "one more", row(api.MaxGroups+1))
	nest := func(n int) api.Node {
		return times(n, empty, func(i int, body api.Node) api.Node { return seq(group(i, fmt.Sprint("g", i), body), back(n)) })
	}
	allowed(t, "MaxGroups groups within one another", nest(api.MaxGroups))
	refused(t, "one more within", nest(api.MaxGroups+1))
}

func TestRepetitions(t *testing.T) { // P14.1
	for _, c := range []struct {
		least, most, mode int
		want              bool
	}{
		{0, 0, 0, true}, {0, -1, 0, true}, {100, 100, 2, true}, {100, -1, 1, true}, {3, 3, 0, true}, {99, 100, 0, true},
		{-1, -1, 0, false}, {-1, 5, 0, false}, {0, -2, 0, false}, {3, 2, 0, false}, {1, 0, 0, false}, {101, 101, 0, false}, {101, -1, 0, false}, {0, 101, 0, false}, {100, 99, 0, false}, {math.MinInt, -1, 0, false}, {math.MinInt, math.MinInt, 0, false}, {0, math.MinInt, 0, false}, {0, math.MaxInt, 0, false}, {math.MaxInt, -1, 0, false}, {math.MaxInt, math.MaxInt, 0, false},
		{0, 1, -1, false}, {0, 1, 3, false}, {0, 1, math.MaxInt, false}, {0, 1, math.MinInt, false},
	} {
		if n := seq(repeat(c.least, c.most, c.mode, dot)); tree.Can(n) != c.want {
			t.Errorf("%d to %d times, mode %d: Can = %v", c.least, c.most, c.mode, !c.want)
		}
	}
	for what, kid := range map[string]api.Node{
		"a repetition": repeat(0, 1, 0, dot), "a look": look(0, seq()), "an assertion": assertion(1), "a sequence": seq(dot), "alternatives": alt(seq(), seq()), "a range": span(1, 2), "nothing": {}, "a set": {Kind: api.NodeSet}, "what can't be": char(-1), "a class that can't be": class(0), "back to what comes": back(1),
	} {
		refused(t, "a repetition of "+what, seq(repeat(0, -1, 0, kid)))
	}
	refused(t, "a repetition of none", seq(api.Node{Kind: api.NodeRepeat, B: 1}))
	refused(t, "a repetition of two", seq(api.Node{Kind: api.NodeRepeat, B: 1, Kids: []api.Node{dot, dot}}))
}

func TestClassesThatCantBe(t *testing.T) { // P14.1
	for what, n := range map[string]api.Node{
		"an empty one": class(api.Union), "an empty one within": class(api.Union, char('a'), class(api.Union)), "of any": class(api.Union, dot), "of a sequence": class(api.Union, seq()), "of a group": class(api.Union, group(1, "", seq())), "of an assertion": class(api.Union, assertion(1)), "of nothing": class(api.Union, api.Node{}), "of a set": class(api.Union, api.Node{Kind: api.NodeSet}), "of a repetition": class(api.Union, repeat(0, 1, 0, dot)), "of a cluster": class(api.Union, cluster),
		"no code point": class(api.Union, char(-1)), "a surrogate": class(api.Union, char(0xd800)), "no property": class(api.Union, prop("x", false)),
		"a range that falls": class(api.Union, span('b', 'a')), "a surrogate ahead": class(api.Union, span(0xd800, 0xe000)), "a surrogate behind": class(api.Union, span(0xd700, 0xdfff)), "a range below": class(api.Union, span(-1, 5)), "a range above": class(api.Union, span(5, api.MaxRune+1)),
		"a mode below": class(-1, letter, letter), "a mode above": class(4, letter, letter), "a mode above of one": class(4, char('a')),
		"no sides": class(api.Meet), "one side": class(api.Minus, letter), "three sides": class(api.Xor, letter, letter, letter), "sides of code points": class(api.Meet, char('a'), char('b')), "a left code point": class(api.Meet, char('a'), letter), "a right code point": class(api.Meet, letter, char('a')),
		"left without": class(api.Meet, not(letter), letter), "right without": class(api.Meet, letter, not(letter)), "a right side of sides": class(api.Minus, letter, class(api.Minus, letter, letter)), "an empty left side": class(api.Xor, class(api.Union), letter), "an empty right side": class(api.Xor, letter, class(api.Union)), "a left side of sides without": class(api.Meet, not(class(api.Meet, letter, letter)), letter), "a left side of a mode above": class(api.Meet, class(4, letter, letter), letter), "a right side of a mode below": class(api.Meet, letter, class(-1, letter)),
		"a left side's Name": class(api.Meet, api.Node{Kind: api.NodeClass, Name: "x", Kids: []api.Node{char('a')}}, letter), "a right side's A": class(api.Meet, letter, api.Node{Kind: api.NodeClass, A: 1, Kids: []api.Node{char('a')}}), "a left side's left side's B": class(api.Meet, class(api.Meet, api.Node{Kind: api.NodeClass, B: 1, Kids: []api.Node{char('a')}}, letter), letter),
	} {
		refused(t, what, seq(n))
		refused(t, what+", without", seq(not(n)))
		refused(t, what+" within", seq(class(api.Union, char('x'), n)))
		refused(t, what+" as a side", seq(class(api.Meet, class(api.Union, n), letter)))
	}
}

func TestFieldsThatAreNotZero(t *testing.T) { // P14.1: all other fields are zero
	set := []api.Range{{Lo: 'a', Hi: 'b'}}
	wrong := map[string]func(n *api.Node){
		"Mode": func(n *api.Node) { n.Mode = 1 }, "A": func(n *api.Node) { n.A = 1 }, "B": func(n *api.Node) { n.B = 1 }, "Neg": func(n *api.Node) { n.Neg = true },
		"Name": func(n *api.Node) { n.Name = "d" }, "Set": func(n *api.Node) { n.Set = set }, "Kids": func(n *api.Node) { n.Kids = append([]api.Node{}, dot) },
	}
	for _, c := range []struct {
		what string
		n    api.Node
		in   func(n api.Node) api.Node
		own  string // the fields that the kind has
	}{
		{"NodeSeq", seq(), func(n api.Node) api.Node { return n }, "Kids"}, {"NodeSeq of NodeAlt", seq(), func(n api.Node) api.Node { return alt(n, seq()) }, "Kids"}, {"NodeAlt", alt(seq(), seq()), func(n api.Node) api.Node { return n }, "Kids"},
		{"NodeChar", char('a'), func(n api.Node) api.Node { return seq(n) }, "A"}, {"NodeAny", dot, func(n api.Node) api.Node { return seq(n) }, ""}, {"NodeCluster", cluster, func(n api.Node) api.Node { return seq(n) }, ""}, {"NodeProp", prop("w", false), func(n api.Node) api.Node { return seq(n) }, "Name Neg"},
		{"NodeClass", letter, func(n api.Node) api.Node { return seq(n) }, "Mode Neg Kids"}, {"NodeRepeat", repeat(1, 1, 0, dot), func(n api.Node) api.Node { return seq(n) }, "Mode A B Kids"}, {"NodeGroup", group(1, "", seq()), func(n api.Node) api.Node { return seq(n) }, "A Name Kids"}, {"NodeGroup of 0", group(0, "", seq()), func(n api.Node) api.Node { return seq(n) }, "A Kids"},
		{"NodeLook", look(0, seq()), func(n api.Node) api.Node { return seq(n) }, "Mode Kids"}, {"NodeAtomic", atomic(seq()), func(n api.Node) api.Node { return seq(n) }, "Kids"}, {"NodeAssert", assertion(3), func(n api.Node) api.Node { return seq(n) }, "Mode"}, {"NodeBack", back(1), func(n api.Node) api.Node { return seq(group(1, "", seq()), n) }, "A"},
		{"NodeChar of a class", char('a'), func(n api.Node) api.Node { return seq(class(0, n)) }, "A"}, {"NodeRange", span('a', 'b'), func(n api.Node) api.Node { return seq(class(0, n)) }, "A B"}, {"NodeProp of a class", prop("w", false), func(n api.Node) api.Node { return seq(class(0, n)) }, "Name Neg"}, {"NodeClass of a class", letter, func(n api.Node) api.Node { return seq(class(0, n)) }, "Mode Neg Kids"},
		{"a left side", letter, func(n api.Node) api.Node { return seq(class(1, n, letter)) }, "Mode Kids"}, {"a right side", letter, func(n api.Node) api.Node { return seq(class(1, letter, n)) }, "Mode Kids"}, {"a kid of NodeRepeat", char('a'), func(n api.Node) api.Node { return seq(repeat(0, 1, 0, n)) }, "A"}, {"a body", seq(), func(n api.Node) api.Node { return seq(group(0, "", n)) }, "Kids"},
	} {
		allowed(t, c.what, c.in(c.n))
		for field, change := range wrong {
			n := c.n
			change(&n)
			if !strings.Contains(" "+c.own+" ", " "+field+" ") {
				refused(t, c.what+" with "+field, c.in(n))
			}
		}
		n := c.n
		n.Set = []api.Range{}
		if n.Kids == nil {
			n.Kids = []api.Node{}
		}
		allowed(t, c.what+" with empty lists", c.in(n))
	}
}

func TestDepthOfTrees(t *testing.T) { // P14.1: MaxDepth
	wraps := map[string]func(i int, body api.Node) api.Node{
		"plain groups": func(_ int, body api.Node) api.Node { return seq(group(0, "", body)) }, "looks": func(_ int, body api.Node) api.Node { return seq(look(3, body)) }, "atomic parts": func(_ int, body api.Node) api.Node { return seq(atomic(body)) },
		"repeated ones": func(_ int, body api.Node) api.Node { return seq(repeat(0, 1, 0, group(0, "", body))) }, "alternatives": func(_ int, body api.Node) api.Node { return alt(seq(), seq(dot, atomic(body), dot)) },
	}
	for what, wrap := range wraps {
		for _, inner := range []api.Node{seq(), seq(dot), alt(seq(), seq())} {
			allowed(t, what, times(api.MaxDepth, inner, wrap))
			refused(t, what+", one more", times(api.MaxDepth+1, inner, wrap))
		}
		allowed(t, what+" and a class", times(api.MaxDepth-1, seq(letter, letter), wrap))
		refused(t, what+" and a class too many", times(api.MaxDepth, seq(letter), wrap))
	}
	within := func(_ int, n api.Node) api.Node { return class(api.Union, n) }
	allowed(t, "classes", seq(times(api.MaxDepth, char('a'), within)))
	refused(t, "classes, one more", seq(times(api.MaxDepth+1, char('a'), within)))
	left := func(_ int, n api.Node) api.Node { return class(api.Meet, n, letter) }
	allowed(t, "sides, which have no brackets", seq(times(3*api.MaxDepth, letter, left)))
	allowed(t, "classes within sides", seq(times(3*api.MaxDepth, class(api.Union, times(api.MaxDepth-1, char('a'), within)), left)))
	refused(t, "classes within sides, one more", seq(times(3*api.MaxDepth, class(api.Union, times(api.MaxDepth, char('a'), within)), left)))
}

func TestTreesThatAreTooLong(t *testing.T) { // P14.1: MaxPattern
	row := func(size int, n api.Node) api.Node {
		l := make([]api.Node, size)
		for i := range l {
			l[i] = n
		}
		return seq(l...)
	}
	for _, c := range []struct {
		n     api.Node
		bytes int
	}{
		{char('a'), 1}, {char('('), 2}, {char(0x1f600), 4}, {char(1), 5}, {repeat(0, -1, 1, dot), 3}, {letter, 3}, {not(letter), 4}, {prop("gc=Lu", false), 9}, {group(0, "", seq()), 4}, {class(api.Minus, letter, letter), 6}, {class(api.Union, span('a', 'b')), 5},
	} {
		most := api.MaxPattern / c.bytes
		fits := row(most, c.n)
		for range api.MaxPattern - most*c.bytes {
			fits.Kids = append(fits.Kids, dot)
		}
		if s, e := tree.Print(fits); e != api.OK || len(s) != api.MaxPattern {
			t.Errorf("MaxPattern bytes of %v: %d bytes, %v", c.n, len(s), e)
		}
		refused(t, "one byte more", seq(append(fits.Kids, dot)...))
		refused(t, "one part more", row(most+1, c.n))
	}
	refused(t, "far more", row(1<<20, dot))
	bodies := make([]api.Node, api.MaxPattern+1)
	for i := range bodies {
		bodies[i] = seq()
	}
	allowed(t, "MaxPattern bars", alt(bodies...))
	refused(t, "one bar more", alt(append(bodies, seq())...))
	ends := times(3, row(api.MaxPattern-3*len("(?>)"), dot), func(_ int, body api.Node) api.Node { return seq(atomic(body)) })
	allowed(t, "MaxPattern bytes with brackets", ends)
	refused(t, "a bracket's byte more", times(3, row(api.MaxPattern-3*len("(?>)")+1, dot), func(_ int, body api.Node) api.Node { return seq(atomic(body)) }))
}

func TestThatCanEnds(t *testing.T) { // the rule Ends: trees that are greater than what they are made of
	both := seq(dot)
	for range 60 {
		both = seq(group(0, "", both), group(0, "", both))
	}
	refused(t, "twice the one below", both)
	round := make([]api.Node, 1)
	round[0] = seq(api.Node{Kind: api.NodeAtomic, Kids: round})
	refused(t, "a group within itself", round[0])
	sides := make([]api.Node, 2)
	sides[0], sides[1] = class(api.Meet, sides...), letter
	refused(t, "a left side within itself", seq(class(api.Minus, sides...)))
	within := make([]api.Node, 1)
	within[0] = class(api.Union, within...)
	refused(t, "a class within itself", seq(within...))
	again := make([]api.Node, 1)
	again[0] = api.Node{Kind: api.NodeRepeat, B: 1, Kids: again}
	refused(t, "a repetition of itself", seq(again...))
	apart := make([]api.Node, 2)
	apart[0], apart[1] = seq(), alt(apart...)
	refused(t, "alternatives within themselves", alt(apart...))
}

func TestSame(t *testing.T) { // P14.2
	set := []api.Range{{Lo: 1, Hi: 2}, {Lo: 4, Hi: 5}}
	base := func() api.Node {
		return api.Node{Kind: api.NodeGroup, Mode: 2, A: 3, B: 4, Neg: true, Name: "n", Set: append([]api.Range{}, set...), Kids: []api.Node{seq(char('a'), char('b')), dot}}
	}
	if !tree.Same(base(), base()) || !tree.Same(api.Node{}, api.Node{}) {
		t.Error("a node is not the same as itself")
	}
	for what, change := range map[string]func(n *api.Node){
		"Kind": func(n *api.Node) { n.Kind++ }, "Mode": func(n *api.Node) { n.Mode-- }, "A": func(n *api.Node) { n.A = 0 }, "B": func(n *api.Node) { n.B = -1 }, "Neg": func(n *api.Node) { n.Neg = false }, "Name": func(n *api.Node) { n.Name = "N" },
		"Set's Lo": func(n *api.Node) { n.Set[0].Lo = 0 }, "Set's Hi": func(n *api.Node) { n.Set[1].Hi = 6 }, "a shorter Set": func(n *api.Node) { n.Set = n.Set[:1] }, "no Set": func(n *api.Node) { n.Set = nil }, "Set's order": func(n *api.Node) { n.Set[0], n.Set[1] = n.Set[1], n.Set[0] },
		"no Kids": func(n *api.Node) { n.Kids = nil }, "fewer Kids": func(n *api.Node) { n.Kids = n.Kids[:1] }, "more Kids": func(n *api.Node) { n.Kids = append(n.Kids, dot) }, "Kids' order": func(n *api.Node) { n.Kids[0], n.Kids[1] = n.Kids[1], n.Kids[0] }, "a kid": func(n *api.Node) { n.Kids[1].A = 1 }, "a kid's kid": func(n *api.Node) { n.Kids[0].Kids[1].A = 'c' }, "a kid's Set": func(n *api.Node) { n.Kids[0].Set = set },
	} {
		n := base()
		change(&n)
		if tree.Same(n, base()) || tree.Same(base(), n) {
			t.Errorf("with another %s two nodes are the same", what)
		}
		if !tree.Same(n, n) {
			t.Errorf("with another %s a node is not the same as itself", what)
		}
	}
	bare := api.Node{Kind: api.NodeSeq, Kids: []api.Node{{Kind: api.NodeAny}}}
	empty := api.Node{Kind: api.NodeSeq, Set: []api.Range{}, Kids: []api.Node{{Kind: api.NodeAny, Set: make([]api.Range, 0, 5), Kids: make([]api.Node, 0, 5)}}}
	if !tree.Same(bare, empty) || !tree.Same(empty, bare) {
		t.Error("nil and empty lists are not the same")
	}
}

func TestGroupsAndDepth(t *testing.T) { // P14.2
	pair := class(api.Meet, letter, letter)
	for _, c := range []struct {
		what          string
		n             api.Node
		groups, depth int
	}{
		{"nothing", api.Node{}, 0, 0}, {"a part", char('a'), 0, 0}, {"a sequence", seq(dot, assertion(1), repeat(0, 1, 0, cluster)), 0, 0},
		{"a group", group(1, "", seq()), 1, 1}, {"a group without kids", api.Node{Kind: api.NodeGroup, A: 7}, 1, 1}, {"a plain group", group(0, "", seq()), 0, 1}, {"a number below", group(-1, "", seq()), 0, 1}, {"a look", look(2, seq()), 0, 1}, {"an atomic part", atomic(seq()), 0, 1}, {"a class", letter, 0, 1},
		{"one number twice", seq(group(1, "", seq()), group(1, "", seq())), 2, 1}, {"one within another", seq(group(1, "", alt(seq(), seq(group(2, "n", seq()), dot))), back(2)), 2, 2}, {"all kinds", seq(dot, repeat(0, 1, 0, group(9, "", seq(look(0, seq(atomic(seq(group(0, "", seq(letter)))))))))), 1, 5},
		{"a row", seq(atomic(seq()), atomic(seq(atomic(seq()))), atomic(seq())), 0, 2}, {"classes within", class(api.Union, class(api.Union, letter), letter), 0, 3},
		{"sides", pair, 0, 1}, {"sides of sides", class(api.Minus, class(api.Xor, pair, letter), letter), 0, 1}, {"a class within a left side", class(api.Meet, class(api.Union, letter), letter), 0, 2}, {"within a right side", class(api.Xor, letter, class(api.Union, char('b'), letter)), 0, 2}, {"sides within sides", class(api.Minus, class(api.Meet, class(api.Union, pair), letter), letter), 0, 2}, {"sides in a class", class(api.Union, class(api.Union, pair)), 0, 3},
		{"a mode that is none", class(4, letter, letter), 0, 2}, {"a mode below", class(-1, letter), 0, 2}, {"three sides", class(api.Meet, letter, letter, class(api.Union, letter)), 0, 2}, {"a group as a side", class(api.Meet, group(1, "", letter), letter), 1, 3}, {"a sequence as a side", class(api.Meet, seq(letter), letter), 0, 2}, {"another kind of that mode", look(api.Meet, letter), 0, 2}, {"a repetition of that mode", repeat(0, 1, api.Minus, letter), 0, 1},
		{"kids of what has none", api.Node{Kind: api.NodeChar, Kids: []api.Node{group(3, "", letter)}}, 1, 2}, {"kids of no kind", api.Node{Kind: 77, Kids: []api.Node{group(3, "", letter), {Kids: []api.Node{group(1, "", group(2, "", group(0, "", dot)))}}}}, 3, 3},
	} {
		if got := tree.Groups(c.n); got != c.groups {
			t.Errorf("%s: Groups = %d, want %d", c.what, got, c.groups)
		}
		if got := tree.Depth(c.n); got != c.depth {
			t.Errorf("%s: Depth = %d, want %d", c.what, got, c.depth)
		}
	}
	deep := times(1<<15, dot, func(i int, body api.Node) api.Node { return group(i, "", seq(body)) })
	if tree.Groups(deep) != 1<<15 || tree.Depth(deep) != 1<<15 || !tree.Same(deep, deep) || tree.Can(seq(deep)) {
		t.Error("2^16 parts within one another")
	}
}

func TestScanOfPatterns(t *testing.T) { // P14.1: a tree's pattern has tokens without a fault, of its own parts
	n := seq(group(1, "n", alt(seq(char('{'), repeat(2, -1, api.Possessive, char('}'))), seq(assertion(api.Words)))), back(1), class(api.Minus, class(api.Union, span('!', '-'), prop("sc=Grek", true)), class(api.Union, char('&'), char('&'))))
	s, e := tree.Print(n)
	if s != `(?<n>\{}{2,}+|\b{w})\k{1}[!-\-\P{sc=Grek}--\&\&]` || e != api.OK {
		t.Fatalf("Print = %q, %v", s, e)
	}
	kinds := []int{}
	l, f := token.Scan([]byte(s))
	for _, x := range l {
		kinds = append(kinds, x.Kind)
	}
	if f.Code != api.OK || fmt.Sprint(kinds) != "[3 1 1 6 5 7 4 9 11 1 13 1 8 14 1 1 12]" {
		t.Errorf("Scan: %v, %v", kinds, f)
	}
}

func TestMemory(t *testing.T) { // the rule Memory
	room := []api.Node{char('a'), group(1, "n", seq(dot)), letter, char('z'), char('y')}
	n := seq(room[:3]...)
	was := fmt.Sprint(room)
	tree.Can(n)
	tree.Print(n)
	tree.Same(n, n)
	tree.Groups(n)
	tree.Depth(n)
	if fmt.Sprint(room) != was {
		t.Errorf("the argument became %v", room)
	}
}
