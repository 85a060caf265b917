package parse_test

import (
	"fmt"
	"strings"
	"testing"

	"rubricator/api"
	"rubricator/parse"
	"rubricator/tree"
)

func char(r int) api.Node { return api.Node{Kind: api.NodeChar, A: r} }

func span(lo, hi int) api.Node { return api.Node{Kind: api.NodeRange, A: lo, B: hi} }

func prop(name string, neg bool) api.Node {
	return api.Node{Kind: api.NodeProp, Name: name, Neg: neg}
}

func seq(l ...api.Node) api.Node { return api.Node{Kind: api.NodeSeq, Kids: l} }

func alt(l ...api.Node) api.Node { return api.Node{Kind: api.NodeAlt, Kids: l} }

func repeat(least, most, mode int, kid api.Node) api.Node {
	return api.Node{Kind: api.NodeRepeat, A: least, B: most, Mode: mode, Kids: []api.Node{kid}}
}

func group(n int, name string, body api.Node) api.Node {
	return api.Node{Kind: api.NodeGroup, A: n, Name: name, Kids: []api.Node{body}}
}

func look(mode int, body api.Node) api.Node {
	return api.Node{Kind: api.NodeLook, Mode: mode, Kids: []api.Node{body}}
}

func atomic(body api.Node) api.Node { return api.Node{Kind: api.NodeAtomic, Kids: []api.Node{body}} }

func assertion(mode int) api.Node { return api.Node{Kind: api.NodeAssert, Mode: mode} }

func back(n int) api.Node { return api.Node{Kind: api.NodeBack, A: n} }

func class(mode int, l ...api.Node) api.Node {
	return api.Node{Kind: api.NodeClass, Mode: mode, Kids: l}
}

func not(n api.Node) api.Node {
	n.Neg = true
	return n
}

var (
	dot     = api.Node{Kind: api.NodeAny}
	cluster = api.Node{Kind: api.NodeCluster}
	a, b, c = char('a'), char('b'), char('c')
)

// union is a class of members.
func union(l ...api.Node) api.Node { return class(api.Union, l...) }

func TestTrees(t *testing.T) { // P15.1
	for _, x := range []struct {
		p    string
		want api.Node
	}{
		{"", seq()}, {"a", seq(a)}, {"ab", seq(a, b)}, {"a|b*", alt(seq(a), seq(repeat(0, -1, api.Greedy, b)))}, {"|", alt(seq(), seq())}, {"a||", alt(seq(a), seq(), seq())}, {"|a", alt(seq(), seq(a))}, {"a|b|c", alt(seq(a), seq(b), seq(c))},
		{`}]-&&~~--,`, seq(char('}'), char(']'), char('-'), char('&'), char('&'), char('~'), char('~'), char('-'), char('-'), char(','))}, {`\n\x{e9}\.é`, seq(char(10), char(0xe9), char('.'), char(0xe9))},
		{`.\X\d\W\p{Lu}\P{script=greek}\p{white space}`, seq(dot, cluster, prop("d", false), prop("w", true), prop("gc=Lu", false), prop("sc=Grek", true), prop("space", false))},
		{`^$\A\z\b\B\b{g}\B{g}\b{w}\B{w}`, seq(assertion(1), assertion(2), assertion(3), assertion(4), assertion(5), assertion(6), assertion(7), assertion(8), assertion(9), assertion(10))},
		{"a*b+?c?+", seq(repeat(0, -1, api.Greedy, a), repeat(1, -1, api.Lazy, b), repeat(0, 1, api.Possessive, c))}, {"a{2}b{2,}?c{0,100}+", seq(repeat(2, 2, api.Greedy, a), repeat(2, -1, api.Lazy, b), repeat(0, 100, api.Possessive, c))},
		{`.*\X*\d*[a]*(?:)*()*(?>)*\1*`, seq(repeat(0, -1, 0, dot), repeat(0, -1, 0, cluster), repeat(0, -1, 0, prop("d", false)), repeat(0, -1, 0, union(a)), repeat(0, -1, 0, group(0, "", seq())), repeat(0, -1, 0, group(1, "", seq())), repeat(0, -1, 0, atomic(seq())), repeat(0, -1, 0, back(1)))},
		{"(a)(?:b)(?<n>c)", seq(group(1, "", seq(a)), group(0, "", seq(b)), group(2, "n", seq(c)))}, {"(?=a)(?!b)(?<=c)(?<!a|b)(?>c)", seq(look(api.Ahead, seq(a)), look(api.NotAhead, seq(b)), look(api.Behind, seq(c)), look(api.NotBehind, alt(seq(a), seq(b))), atomic(seq(c)))},
		{"(a|b)|c", alt(seq(group(1, "", alt(seq(a), seq(b)))), seq(c))}, {"()|(|)", alt(seq(group(1, "", seq())), seq(group(2, "", alt(seq(), seq()))))},
		{"(a(b)(?:(c)))(?<n>)", seq(group(1, "", seq(a, group(2, "", seq(b)), group(0, "", seq(group(3, "", seq(c)))))), group(4, "n", seq()))}, {"(?=(a))(?<!(?>(b)))", seq(look(api.Ahead, seq(group(1, "", seq(a)))), look(api.NotBehind, seq(atomic(seq(group(2, "", seq(b)))))))},
		{`(a\1)\1\k{1}`, seq(group(1, "", seq(a, back(1))), back(1), back(1))}, {`(?<n>\k<n>)()\k{02}\k<n>*`, seq(group(1, "n", seq(back(1))), group(2, "", seq()), back(2), repeat(0, -1, 0, back(1)))}, {`(?<n>)(?<N>)(?<n1>)\k<n1>\k<N>\k<n>`, seq(group(1, "n", seq()), group(2, "N", seq()), group(3, "n1", seq()), back(3), back(2), back(1))}, {`()|\1`, alt(seq(group(1, "", seq())), seq(back(1)))}, {`(()\2)\10`, seq(group(1, "", seq(group(2, "", seq()), back(2))), back(1), char('0'))},
	} {
		check(t, x.p, x.want)
	}
}

func TestClasses(t *testing.T) { // P15.1
	for _, x := range []struct {
		p    string
		want api.Node
	}{
		{"[a]", union(a)}, {"[^a]", not(union(a))}, {"[abc]", union(a, b, c)}, {"[a-c]", union(span('a', 'c'))}, {"[a-a]", union(span('a', 'a'))}, {"[ca-bc]", union(c, span('a', 'b'), c)}, {"[a-bb-c]", union(span('a', 'b'), span('b', 'c'))},
		{`[\d\WaA-Z\p{Lu}]`, union(prop("d", false), prop("w", true), a, span('A', 'Z'), prop("gc=Lu", false))}, {`[a\-c\]\[\^\x{0}-\x{10FFFF}]`, union(a, char('-'), c, char(']'), char('['), char('^'), span(0, api.MaxRune))}, {`[.|()*{$&~^]`, union(dotted(".|()*{$&~^")...)}, {`[+-\-]`, union(span('+', '-'))},
		{"[[a]]", union(union(a))}, {"[[^a]b[c]]", union(not(union(a)), b, union(c))}, {"[^[^[^a]]]", not(union(not(union(not(union(a))))))},
		{"[a&&b]", class(api.Meet, union(a), union(b))}, {"[a--b]", class(api.Minus, union(a), union(b))}, {"[^a~~b]", not(class(api.Xor, union(a), union(b)))},
		{"[ab&&bc]", class(api.Meet, union(a, b), union(b, c))}, {"[a&&b--c]", class(api.Minus, class(api.Meet, union(a), union(b)), union(c))}, {"[^a~~b--c&&a]", not(class(api.Meet, class(api.Minus, class(api.Xor, union(a), union(b)), union(c)), union(a)))},
		{"[a-z&&[^b]--c]", class(api.Minus, class(api.Meet, union(span('a', 'z')), union(not(union(b)))), union(c))}, {"[a&&[b--c]]", class(api.Meet, union(a), union(class(api.Minus, union(b), union(c))))}, {"[[a&&b]]", union(class(api.Meet, union(a), union(b)))}, {"[[a]&&[b]]", class(api.Meet, union(union(a)), union(union(b)))}, {"[a--[^b--[c]]a]", class(api.Minus, union(a), union(not(class(api.Minus, union(b), union(union(c)))), a))},
	} {
		check(t, x.p, seq(x.want))
		check(t, "a|("+x.p+"*)", alt(seq(a), seq(group(1, "", seq(repeat(0, -1, 0, x.want))))))
		checkFaults(t, []fault{{"[" + x.p + "-", api.ErrMark, 1 + len(x.p)}, {x.p + ")", api.ErrMark, len(x.p)}})
		check(t, "["+x.p+"]", seq(union(x.want)))
		check(t, "[a--"+x.p+"b]", seq(class(api.Minus, union(a), union(x.want, b))))
	}
}

// dotted is a code point each.
func dotted(s string) []api.Node {
	var out []api.Node
	for _, r := range s {
		out = append(out, char(int(r)))
	}
	return out
}

// check holds the tree of a pattern against what it should be.
func check(t *testing.T, p string, want api.Node) {
	t.Helper()
	got, f := parse.Parse([]byte(p))
	if f != (api.Fault{}) || !tree.Same(got, want) || !tree.Can(got) {
		t.Errorf("Parse(%q) = %v, fault %v, want %v", p, got, f, want)
	}
}

// fault is a pattern, and its fault.
type fault struct {
	p    string
	code api.Errno
	at   int
}

func checkFaults(t *testing.T, l []fault) {
	t.Helper()
	for _, x := range l {
		n, f := parse.Parse([]byte(x.p))
		if f != (api.Fault{Code: x.code, At: x.at}) || !tree.Same(n, api.Node{}) {
			t.Errorf("Parse(%q) = %v, fault %v, want {%d %d}", x.p, n, f, x.code, x.at)
		}
	}
}

func TestFaultsOutside(t *testing.T) { // P15.1
	checkFaults(t, []fault{
		{")", api.ErrMark, 0}, {"a)", api.ErrMark, 1}, {"(a))", api.ErrMark, 3}, {"a|)", api.ErrMark, 2}, {"(?:a)b)c)", api.ErrMark, 6}, {"[a])", api.ErrMark, 3},
		{"*", api.ErrMark, 0}, {"+?", api.ErrMark, 0}, {"{2}", api.ErrMark, 0}, {"(*", api.ErrMark, 1}, {"(?:?", api.ErrMark, 3}, {"(?<=+)", api.ErrMark, 4}, {"(?<n>{2,3})", api.ErrMark, 5}, {"a|*", api.ErrMark, 2}, {"é|?", api.ErrMark, 3}, {"(a|*)", api.ErrMark, 3}, {"||+", api.ErrMark, 2},
		{"a**", api.ErrRepeat, 2}, {"a*??", api.ErrRepeat, 3}, {"a{2}{3}", api.ErrRepeat, 4}, {"a?+*", api.ErrRepeat, 3}, {"(a*)*+{2}", api.ErrRepeat, 6}, {"^*", api.ErrRepeat, 1}, {"^+", api.ErrRepeat, 1}, {"a$?", api.ErrRepeat, 2}, {`\A*`, api.ErrRepeat, 2}, {`\z{2}`, api.ErrRepeat, 2}, {`\b*`, api.ErrRepeat, 2}, {`\B+`, api.ErrRepeat, 2}, {`\b{g}*`, api.ErrRepeat, 5}, {`\B{w}{2}`, api.ErrRepeat, 5}, {"(?=a)*", api.ErrRepeat, 5}, {"(?!a)?", api.ErrRepeat, 5}, {"(?<=a)+", api.ErrRepeat, 6}, {"(?<!a){2}", api.ErrRepeat, 6},
		{`\1`, api.ErrGroup, 0}, {`a\k{20}`, api.ErrGroup, 1}, {`\k{99}`, api.ErrGroup, 0}, {`\k<n>`, api.ErrGroup, 0}, {`(a)\2`, api.ErrGroup, 3}, {`\1(a)`, api.ErrGroup, 0}, {`(\2())`, api.ErrGroup, 1}, {`(?:a)\1`, api.ErrGroup, 5}, {`(?=a)\1`, api.ErrGroup, 5}, {`(?<n>)\k<m>`, api.ErrGroup, 6}, {`(?<n>)\k<N>`, api.ErrGroup, 6}, {`(\k<n>)(?<n>)`, api.ErrGroup, 1}, {`()\k<_>`, api.ErrGroup, 2}, {`\9*`, api.ErrGroup, 0},
		{"(?<n>)(?<n>)", api.ErrGroup, 6}, {"(?<n>(?<n>", api.ErrGroup, 5}, {"(?<n>)|(?:(?<m>(?<n>a)))", api.ErrGroup, 15},
		{"(", api.ErrEnd, 1}, {"(a", api.ErrEnd, 2}, {"((a)", api.ErrEnd, 4}, {"(?:", api.ErrEnd, 3}, {"(?<n>a|", api.ErrEnd, 7}, {"(?=", api.ErrEnd, 3}, {"(?>a", api.ErrEnd, 4}, {"([a]", api.ErrEnd, 4},
	})
}

func TestFaultsOfClasses(t *testing.T) { // P15.1
	checkFaults(t, []fault{
		{"[]", api.ErrMark, 1}, {"[^]", api.ErrMark, 2}, {"a[[]]", api.ErrMark, 3}, {"[]a]", api.ErrMark, 1}, {"[&&a]", api.ErrMark, 1}, {"[^--a]", api.ErrMark, 2}, {"[~~", api.ErrMark, 1}, {"[-a]", api.ErrMark, 1}, {"[^-]", api.ErrMark, 2}, {"[a[-", api.ErrMark, 3},
		{"[a&&]", api.ErrMark, 4}, {"[a--]", api.ErrMark, 4}, {"[+--]", api.ErrMark, 4}, {"[a~~]b]", api.ErrMark, 4}, {"[a&&&&b]", api.ErrMark, 4}, {"[a&&--b]", api.ErrMark, 4}, {"[a&&-b]", api.ErrMark, 4}, {"[a---b]", api.ErrMark, 4}, {"[a----b]", api.ErrMark, 4}, {"[[a]~~-", api.ErrMark, 6},
		{`[\d-a]`, api.ErrMark, 3}, {`[\d-`, api.ErrMark, 3}, {`[a\p{Lu}-z]`, api.ErrMark, 8}, {"[[a]-b]", api.ErrMark, 4}, {"[[a]-", api.ErrMark, 4}, {"[a-b-c]", api.ErrMark, 4}, {"[a-b-]", api.ErrMark, 4}, {"[a-bc-d-e]", api.ErrMark, 7},
		{`[a-\d]`, api.ErrMark, 3}, {`[a-\P{Lu}]`, api.ErrMark, 3}, {"[a-]", api.ErrMark, 3}, {"[a-[b]]", api.ErrMark, 3}, {"[a-[^b]]", api.ErrMark, 3}, {"[a-&&b]", api.ErrMark, 3}, {"[a-~~b]", api.ErrMark, 3}, {"[[a-]", api.ErrMark, 4}, {"[é-]", api.ErrMark, 4},
		{"[z-a]", api.ErrRange, 3}, {"[b-a", api.ErrRange, 3}, {`[a\x{10FFFF}-é]`, api.ErrRange, 13}, {`[\n-\t]`, api.ErrRange, 4}, {"[a-zb-a]", api.ErrRange, 6}, {"[a&&[^c-b]]", api.ErrRange, 8},
		{"[", api.ErrEnd, 1}, {"[^", api.ErrEnd, 2}, {"[a", api.ErrEnd, 2}, {"[a-", api.ErrEnd, 3}, {"[a-z", api.ErrEnd, 4}, {"[a&&", api.ErrEnd, 4}, {"[[a]", api.ErrEnd, 4}, {"[a--b", api.ErrEnd, 5}, {"([a)", api.ErrEnd, 4},
	})
}

func TestFaultsOfTokens(t *testing.T) { // P15.1: Scan's fault, behind all that the tokens ahead of it say
	checkFaults(t, []fault{
		{`\q`, api.ErrEscape, 0}, {"a{3,1}", api.ErrRepeat, 1}, {"(?x)", api.ErrMark, 0}, {"a\xff", api.ErrBytes, 1}, {`\p{zz}`, api.ErrName, 0}, {`a\p{gc=zz}`, api.ErrValue, 1}, {`a\`, api.ErrEnd, 2}, {`[\b]`, api.ErrEscape, 1}, {"(?<1>", api.ErrMark, 0},
		{`(\q`, api.ErrEscape, 1}, {`[a-\q`, api.ErrEscape, 3}, {`[\q`, api.ErrEscape, 1}, {`[a&&\`, api.ErrEnd, 5}, {"(a{101}", api.ErrRepeat, 2}, {"[a-\xff", api.ErrBytes, 3}, {"a*{", api.ErrEnd, 3}, {"a*{x", api.ErrRepeat, 2},
		{`)\q`, api.ErrMark, 0}, {`a**\q`, api.ErrRepeat, 2}, {`\1\q`, api.ErrGroup, 0}, {"[z-a\xff", api.ErrRange, 3}, {"[]\xff", api.ErrMark, 1}, {`(?<n>(?<n>\`, api.ErrGroup, 5}, {`^*(?`, api.ErrRepeat, 1},
		{strings.Repeat("a", api.MaxPattern+1), api.ErrFull, api.MaxPattern}, {strings.Repeat(")", api.MaxPattern+1), api.ErrFull, api.MaxPattern}, {strings.Repeat("(", 1<<20), api.ErrFull, api.MaxPattern}, {strings.Repeat("\xff", 2*api.MaxPattern), api.ErrFull, api.MaxPattern},
		{strings.Repeat("a", api.MaxPattern-1) + ")", api.ErrMark, api.MaxPattern - 1}, {strings.Repeat("a", api.MaxPattern-1) + "(", api.ErrEnd, api.MaxPattern},
	})
	check(t, strings.Repeat("a", api.MaxPattern), seq(dotted(strings.Repeat("a", api.MaxPattern))...))
}

func TestDepth(t *testing.T) { // P15.1: ErrDeep
	for _, x := range []struct{ open, close string }{{"(?:", ")"}, {"(?=", ")"}, {"(?!", ")"}, {"(?<=", ")"}, {"(?<!", ")"}, {"(?>", ")"}} {
		most := strings.Repeat(x.open, api.MaxDepth)
		end := strings.Repeat(x.close, api.MaxDepth)
		for _, inner := range []string{"", "a", "a|b", "a*", `\d`, "^"} {
			if n, f := parse.Parse([]byte(most + inner + end)); f.Code != api.OK || tree.Depth(n) != api.MaxDepth {
				t.Errorf("%s within MaxDepth %s: depth %d, fault %v", inner, x.open, tree.Depth(n), f)
			}
		}
		at := len(most)
		checkFaults(t, []fault{
			{most + x.open + x.close + end, api.ErrDeep, at}, {most + x.open, api.ErrDeep, at}, {most + "a(", api.ErrDeep, at + 1}, {most + "(?<n>", api.ErrDeep, at}, {most + "[a]", api.ErrDeep, at}, {most + "[", api.ErrDeep, at}, {most + "a|[^", api.ErrDeep, at + 2},
			{most + "*", api.ErrMark, at}, {most + `[\q`, api.ErrDeep, at}, {most + `\q`, api.ErrEscape, at},
			{most, api.ErrEnd, at}, {most + x.close + "a" + x.open + x.close + x.open + x.open, api.ErrDeep, at + 2 + 2*len(x.open) + len(x.close)},
		})
	}
	most := strings.Repeat("[a", api.MaxDepth)
	end := strings.Repeat("]", api.MaxDepth)
	if n, f := parse.Parse([]byte(most + end)); f.Code != api.OK || tree.Depth(n) != api.MaxDepth {
		t.Errorf("MaxDepth classes: depth %d, fault %v", tree.Depth(n), f)
	}
	half := strings.Repeat("(?:", api.MaxDepth/2) + strings.Repeat("[", api.MaxDepth/2)
	checkFaults(t, []fault{
		{most + "[b]" + end, api.ErrDeep, len(most)}, {most + "[^", api.ErrDeep, len(most)}, {most + "--[", api.ErrDeep, len(most) + 2}, {most + "-[", api.ErrMark, len(most) + 1}, {most, api.ErrEnd, len(most)},
		{half + "[", api.ErrDeep, len(half)}, {half + "]", api.ErrMark, len(half)},
	})
	sides := strings.Repeat("a&&", 4*api.MaxDepth) + "a" // which have no brackets
	if n, f := parse.Parse([]byte("[" + sides + "]")); f.Code != api.OK || tree.Depth(n) != 1 {
		t.Errorf("many sides: depth %d, fault %v", tree.Depth(n), f)
	}
	if n, f := parse.Parse([]byte(most + "&&" + sides + end)); f.Code != api.OK || tree.Depth(n) != api.MaxDepth {
		t.Errorf("many sides within MaxDepth classes: depth %d, fault %v", tree.Depth(n), f)
	}
}

func TestGroups(t *testing.T) { // P15.1: ErrFull, and which of a TokOpen's errors is told
	all := strings.Repeat("(", api.MaxGroups-1) + "(?<n>" + strings.Repeat(")", api.MaxGroups)
	for _, p := range []string{all, strings.Repeat("()", api.MaxGroups), all + "(?:)(?=a)(?!a)(?<=a)(?<!a)(?>a)" + `\k{20}\k<n>`} {
		n, f := parse.Parse([]byte(p))
		if f.Code != api.OK || tree.Groups(n) != api.MaxGroups {
			t.Errorf("Parse(%q): %d groups, fault %v", p, tree.Groups(n), f)
		}
	}
	at := len(all)
	checkFaults(t, []fault{
		{all + "()", api.ErrFull, at}, {all + "(", api.ErrFull, at}, {all + "(?<m>)", api.ErrFull, at}, {all + "a|(?:(", api.ErrFull, at + 5}, {all + "(?<n>", api.ErrGroup, at}, {all + `\k{21}`, api.ErrGroup, at}, {all + `(\q`, api.ErrFull, at},
	})
	deep := all + strings.Repeat("(?:", api.MaxDepth)
	checkFaults(t, []fault{{deep + "(", api.ErrDeep, len(deep)}, {deep + "(?<n>", api.ErrDeep, len(deep)}, {deep + "(?:", api.ErrDeep, len(deep)}})
	for n := 1; n <= api.MaxGroups; n++ {
		for number := 1; number <= 99; number++ {
			p := fmt.Sprintf(`%s\k{%d}`, strings.Repeat("()", n), number)
			if _, f := parse.Parse([]byte(p)); f != (api.Fault{}) != (number > n) || number > n && f != (api.Fault{Code: api.ErrGroup, At: 2 * n}) {
				t.Fatalf("Parse(%q): fault %v", p, f)
			}
		}
	}
}

func TestTreesWhosePatternsAreTooLong(t *testing.T) { // P15.1: ErrFull at p's length
	for _, x := range []struct {
		ahead, piece string
		own          int // bytes that the piece has in the tree's own pattern
	}{
		{"()", `\1`, 5}, {"(?<n>)", `\1`, 5}, {"", "\x01", 5}, {"", "\n", 5}, {"", "\x7f", 6}, {"", `\n`, 5}, {"", `\p{Lu}`, 9}, {"", `\p{L}`, 8}, {"", "[\t]", 7}, {"[a]", `[\P{Lu}]`, 11},
	} {
		most := (api.MaxPattern - len(x.ahead)) / x.own
		p := x.ahead + strings.Repeat(x.piece, most)
		rest := strings.Repeat("a", api.MaxPattern-len(x.ahead)-most*x.own)
		n, f := parse.Parse([]byte(p + rest))
		if s, _ := tree.Print(n); f.Code != api.OK || len(s) != api.MaxPattern {
			t.Errorf("%d times %q: %d bytes, fault %v", most, x.piece, len(s), f)
		}
		long := p + rest + "b"
		checkFaults(t, []fault{{long, api.ErrFull, len(long)}, {long + ")", api.ErrMark, len(long)}, {long + "(", api.ErrEnd, len(long) + 1}, {long + `\q`, api.ErrEscape, len(long)}})
	}
	shorter := strings.Repeat(`\x{000061}`, api.MaxPattern/10) // the tree's own pattern may be far shorter
	check(t, shorter, seq(dotted(strings.Repeat("a", api.MaxPattern/10))...))
}

func TestMemory(t *testing.T) { // the rule Memory
	room := []byte(`(?<name>a|b)[^x--\d]|\k<name>(?:c*|)[[a]b&&c~~d] and more`)
	p := room[:len(room)-len(" and more")]
	was := string(room)
	first, f := parse.Parse(p)
	if f.Code != api.OK || string(room) != was {
		t.Fatalf("fault %v, and the argument is %q", f, room)
	}
	kept := fmt.Sprintf("%+v", first)
	second, _ := parse.Parse(p)
	clear(room)
	spoil(second)
	if fmt.Sprintf("%+v", first) != kept {
		t.Errorf("an answer became %+v", first)
	}
	third, _ := parse.Parse([]byte(was)[:len(p)])
	lists := 0
	apart(t, &third, &lists)
	if lists < 15 || fmt.Sprintf("%+v", third) != kept {
		t.Errorf("%d lists, of %+v", lists, third)
	}
}

// spoil clears all lists of a node, with their spare room.
func spoil(n api.Node) {
	for _, kid := range n.Kids {
		spoil(kid)
	}
	clear(n.Kids[:cap(n.Kids)])
}

// apart looks whether what is put into a list's spare room comes up elsewhere: each such place is filled once, and must be zero before.
func apart(t *testing.T, n *api.Node, lists *int) {
	t.Helper()
	*lists++
	for i := range n.Kids {
		apart(t, &n.Kids[i], lists)
	}
	spare := n.Kids[len(n.Kids):cap(n.Kids)]
	for i := range spare {
		if spare[i].Kind != 0 && spare[i].Mode == -7 {
			t.Errorf("two lists share their room")
		}
		spare[i] = api.Node{Kind: api.NodeSet, Mode: -7}
	}
}
