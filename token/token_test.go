package token_test

import (
	"fmt"
	"math"
	"regexp"
	"slices"
	"strings"
	"testing"
	"unicode/utf8"

	"rubricator/api"
	"rubricator/token"
)

// scanned is the tokens of a pattern without a fault, their places left out.
func scanned(t *testing.T, p string) []api.Token {
	t.Helper()
	l, f := token.Scan([]byte(p))
	if f != (api.Fault{}) {
		t.Fatalf("Scan(%q): fault %v", p, f)
	}
	for i := range l {
		l[i].Start, l[i].End = 0, 0
	}
	return l
}

func char(r int) api.Token { return api.Token{Kind: api.TokChar, A: r} }

func open(mode int, name string) api.Token {
	return api.Token{Kind: api.TokOpen, Mode: mode, Name: name}
}

func repeat(least, most, mode int) api.Token {
	return api.Token{Kind: api.TokRepeat, A: least, B: most, Mode: mode}
}

func assertion(mode int) api.Token { return api.Token{Kind: api.TokAssert, Mode: mode} }

func prop(name string, neg bool) api.Token {
	return api.Token{Kind: api.TokProp, Name: name, Neg: neg}
}

func back(n int, name string) api.Token { return api.Token{Kind: api.TokBack, A: n, Name: name} }

func class(neg bool) api.Token { return api.Token{Kind: api.TokClass, Neg: neg} }

func set(mode int) api.Token { return api.Token{Kind: api.TokSet, Mode: mode} }

func list(l ...api.Token) []api.Token { return l }

var (
	end  = api.Token{Kind: api.TokEnd}
	dash = api.Token{Kind: api.TokDash}
	dot  = api.Token{Kind: api.TokAny}
	bar  = api.Token{Kind: api.TokBar}
	shut = api.Token{Kind: api.TokClose}
)

func TestTokensOutside(t *testing.T) { // P13.1
	for _, c := range []struct {
		p    string
		want []api.Token
	}{
		{"", nil},
		{"a", list(char('a'))},
		{".|)", list(dot, bar, shut)},
		{"(", list(open(0, ""))}, {"()", list(open(0, ""), shut)}, {"((", list(open(0, ""), open(0, ""))}, {"(a?", list(open(0, ""), char('a'), repeat(0, 1, api.Greedy))},
		{"(?:", list(open(1, ""))}, {"(?<n>", list(open(2, "n"))}, {"(?=", list(open(3, ""))}, {"(?!", list(open(4, ""))}, {"(?<=", list(open(5, ""))}, {"(?<!", list(open(6, ""))}, {"(?>", list(open(7, ""))},
		{"(?:?", list(open(1, ""), repeat(0, 1, api.Greedy))}, {"(?=n>", list(open(3, ""), char('n'), char('>'))},
		{"(?<_>", list(open(2, "_"))}, {"(?<zA_09>>", list(open(2, "zA_09"), char('>'))}, {"(?<" + strings.Repeat("x", 20) + ">", list(open(2, strings.Repeat("x", 20)))},
		{"*", list(repeat(0, -1, api.Greedy))}, {"*?", list(repeat(0, -1, api.Lazy))}, {"*+", list(repeat(0, -1, api.Possessive))},
		{"+", list(repeat(1, -1, api.Greedy))}, {"+?", list(repeat(1, -1, api.Lazy))}, {"++", list(repeat(1, -1, api.Possessive))},
		{"?", list(repeat(0, 1, api.Greedy))}, {"??", list(repeat(0, 1, api.Lazy))}, {"?+", list(repeat(0, 1, api.Possessive))},
		{"a**", list(char('a'), repeat(0, -1, api.Greedy), repeat(0, -1, api.Greedy))}, {"a*?+", list(char('a'), repeat(0, -1, api.Lazy), repeat(1, -1, api.Greedy))}, {"???", list(repeat(0, 1, api.Lazy), repeat(0, 1, api.Greedy))},
		{"a{2,3}?", list(char('a'), repeat(2, 3, api.Lazy))}, {"{7}", list(repeat(7, 7, api.Greedy))}, {"{7,}", list(repeat(7, -1, api.Greedy))}, {"{7,}+", list(repeat(7, -1, api.Possessive))}, {"{0}?", list(repeat(0, 0, api.Lazy))},
		{"{100}", list(repeat(100, 100, api.Greedy))}, {"{100,}", list(repeat(100, -1, api.Greedy))}, {"{0,100}", list(repeat(0, 100, api.Greedy))}, {"{4,4}", list(repeat(4, 4, api.Greedy))}, {"{007,010}", list(repeat(7, 10, api.Greedy))}, {"{000,}", list(repeat(0, -1, api.Greedy))},
		{"{2}{3}", list(repeat(2, 2, api.Greedy), repeat(3, 3, api.Greedy))}, {"{2}*", list(repeat(2, 2, api.Greedy), repeat(0, -1, api.Greedy))},
		{"^$", list(assertion(api.AtBegin), assertion(api.AtEnd))},
		{`\A\z\b\B`, list(assertion(api.TextBegin), assertion(api.TextEnd), assertion(api.WordEdge), assertion(api.NoWordEdge))},
		{`\b{g}\B{g}\b{w}\B{w}`, list(assertion(api.Cluster), assertion(api.NoCluster), assertion(api.Words), assertion(api.NoWords))},
		{`\bg\b}\B?`, list(assertion(api.WordEdge), char('g'), assertion(api.WordEdge), char('}'), assertion(api.NoWordEdge), repeat(0, 1, api.Greedy))},
		{`\b{g}{2}\A{2}`, list(assertion(api.Cluster), repeat(2, 2, api.Greedy), assertion(api.TextBegin), repeat(2, 2, api.Greedy))},
		{`\d\w\s\D\W\S`, list(prop("d", false), prop("w", false), prop("s", false), prop("d", true), prop("w", true), prop("s", true))},
		{`\p{Lu}\P{ general category = uppercase-letter }`, list(prop("gc=Lu", false), prop("gc=Lu", true))},
		{`\p{IsGreek}\P{script:grek}`, list(prop("sc=Grek", false), prop("sc=Grek", true))}, {`\p{white space}\P{ANY}`, list(prop("space", false), prop("Any", true))},
		{`\p{L}{2}`, list(prop("gc=L", false), repeat(2, 2, api.Greedy))},
		{`\1\9\10`, list(back(1, ""), back(9, ""), back(1, ""), char('0'))}, {`\k{1}\k{99}\k{07}`, list(back(1, ""), back(99, ""), back(7, ""))}, {`\k<n>\k<_9>`, list(back(0, "n"), back(0, "_9"))}, {`\k<` + strings.Repeat("Z", 20) + ">", list(back(0, strings.Repeat("Z", 20)))},
		{`\X\Xx`, list(api.Token{Kind: api.TokCluster}, api.Token{Kind: api.TokCluster}, char('x'))},
		{`\n\t\r`, list(char(10), char(9), char(13))},
		{`\x{0}\x{41}\x{00e9}\x{10FFFF}\x{10ffff}\x{D7ff}\x{e000}\x{00000A}`, list(char(0), char('A'), char(0xe9), char(0x10ffff), char(0x10ffff), char(0xd7ff), char(0xe000), char(10))},
		{`\.\\\(\_\ \é` + "\\\U0001f600\\\n\\\x00\\\x7f\\\ufffd", list(char('.'), char('\\'), char('('), char('_'), char(' '), char(0xe9), char(0x1f600), char(10), char(0), char(127), char(0xfffd))},
		{"]}-&~,<>=!:\n\x00", list(char(']'), char('}'), char('-'), char('&'), char('~'), char(','), char('<'), char('>'), char('='), char('!'), char(':'), char(10), char(0))},
		{"&&--~~", list(char('&'), char('&'), char('-'), char('-'), char('~'), char('~'))},
		{"é\u0301\ufffd\U0010ffff", list(char(0xe9), char(0x301), char(0xfffd), char(0x10ffff))},
	} {
		if got := scanned(t, c.p); !slices.Equal(got, c.want) {
			t.Errorf("Scan(%q) = %v, want %v", c.p, got, c.want)
		}
	}
}

func TestTokensWithinClasses(t *testing.T) { // P13.1
	for _, c := range []struct {
		p    string
		want []api.Token
	}{
		{"[", list(class(false))}, {"[^", list(class(true))}, {"[]", list(class(false), end)}, {"[^]", list(class(true), end)}, {"[^^", list(class(true), char('^'))}, {"[a^", list(class(false), char('a'), char('^'))},
		{"[a]b]", list(class(false), char('a'), end, char('b'), char(']'))},
		{"[[^a]*]*", list(class(false), class(true), char('a'), end, char('*'), end, repeat(0, -1, api.Greedy))},
		{"[[[]]]]", list(class(false), class(false), class(false), end, end, end, char(']'))},
		{"[]-&&", list(class(false), end, char('-'), char('&'), char('&'))},
		{"[a-z]", list(class(false), char('a'), dash, char('z'), end)},
		{"[a&&b--c~~d]", list(class(false), char('a'), set(api.Meet), char('b'), set(api.Minus), char('c'), set(api.Xor), char('d'), end)},
		{"[---]", list(class(false), set(api.Minus), dash, end)}, {"[----]", list(class(false), set(api.Minus), set(api.Minus), end)}, {"[-", list(class(false), dash)}, {"[--", list(class(false), set(api.Minus))}, {"[-a-", list(class(false), dash, char('a'), dash)},
		{"[&&&]", list(class(false), set(api.Meet), char('&'), end)}, {"[&", list(class(false), char('&'))}, {"[~~~", list(class(false), set(api.Xor), char('~'))}, {"[&~-&", list(class(false), char('&'), char('~'), dash, char('&'))},
		{"[.|()*+?{2}$", list(class(false), char('.'), char('|'), char('('), char(')'), char('*'), char('+'), char('?'), char('{'), char('2'), char('}'), char('$'))},
		{"[(?:", list(class(false), char('('), char('?'), char(':'))},
		{`[\d\W\s\p{Lu}\P{sc=Latn}]`, list(class(false), prop("d", false), prop("w", true), prop("s", false), prop("gc=Lu", false), prop("sc=Latn", true), end)},
		{`[\n\t\r\x{41}\]\[\^\-\-\&\&\\\.\é]`, list(class(false), char(10), char(9), char(13), char('A'), char(']'), char('['), char('^'), char('-'), char('-'), char('&'), char('&'), char('\\'), char('.'), char(0xe9), end)},
		{"[é\n\U0001f600]", list(class(false), char(0xe9), char(10), char(0x1f600), end)},
		{`[a]\b[b]\1`, list(class(false), char('a'), end, assertion(api.WordEdge), class(false), char('b'), end, back(1, ""))},
	} {
		if got := scanned(t, c.p); !slices.Equal(got, c.want) {
			t.Errorf("Scan(%q) = %v, want %v", c.p, got, c.want)
		}
	}
}

// fault is a pattern, how many tokens stand ahead of its fault, and the fault.
type fault struct {
	p    string
	n    int
	code api.Errno
	at   int
}

func checkFaults(t *testing.T, l []fault) {
	t.Helper()
	for _, c := range l {
		got, f := token.Scan([]byte(c.p))
		if f != (api.Fault{Code: c.code, At: c.at}) || len(got) != c.n {
			t.Errorf("Scan(%q): %d tokens, fault %v, want %d, {%v %d}", c.p, len(got), f, c.n, c.code, c.at)
		}
	}
}

func TestFaultsOfBytes(t *testing.T) { // P13.1: ErrBytes
	checkFaults(t, []fault{
		{"\xff", 0, api.ErrBytes, 0}, {"x\xff", 1, api.ErrBytes, 1}, {"é\x80", 1, api.ErrBytes, 2}, {"a*\xc3", 2, api.ErrBytes, 2}, {"\xe2\x82", 0, api.ErrBytes, 0}, {"a\xe2\x82b", 1, api.ErrBytes, 1}, {"\xed\xa0\x80", 0, api.ErrBytes, 0}, {"\xc0\x80", 0, api.ErrBytes, 0}, {"\xf4\x90\x80\x80", 0, api.ErrBytes, 0},
		{"(\xff", 1, api.ErrBytes, 1}, {"[\xff", 1, api.ErrBytes, 1}, {"[^\xff", 1, api.ErrBytes, 2}, {"[-\xff", 2, api.ErrBytes, 2}, {"\\b\xff", 1, api.ErrBytes, 2}, {"\\1\xff", 1, api.ErrBytes, 2},
		{"\\\xff", 0, api.ErrBytes, 1}, {"a\\\xe2\x82", 1, api.ErrBytes, 2}, {"[\\\xff", 1, api.ErrBytes, 2}, {"\\\xc3p{L}", 0, api.ErrBytes, 1},
		{"\\p{\xff}", 0, api.ErrBytes, 3}, {"\\p{Lu\xe2\x82}", 0, api.ErrBytes, 5}, {"\\p{\xff", 0, api.ErrBytes, 3}, {"\\p{zz\xe2\x82", 0, api.ErrBytes, 5}, {"\\P{é\xff\xfe}", 0, api.ErrBytes, 5}, {"[a\\p{gc=\xff}", 2, api.ErrBytes, 8}, {"\\p{}\xff", 0, api.ErrName, 0}, {"\\p{L}\xff", 1, api.ErrBytes, 5},
		{"(?\xff", 0, api.ErrMark, 0}, {"(?<\xff", 0, api.ErrMark, 0}, {"(?<n\xff>", 0, api.ErrMark, 0}, {"{\xff", 0, api.ErrRepeat, 0}, {"{2\xff}", 0, api.ErrRepeat, 0}, {"{2,\xff", 0, api.ErrRepeat, 0},
		{"\\x\xff", 0, api.ErrEscape, 0}, {"\\x{\xff", 0, api.ErrEscape, 0}, {"\\x{4\xff}", 0, api.ErrEscape, 0}, {"\\k\xff", 0, api.ErrEscape, 0}, {"\\k<\xff", 0, api.ErrEscape, 0}, {"\\k{\xff", 0, api.ErrEscape, 0}, {"\\b{\xff", 0, api.ErrEscape, 0}, {"\\p\xff", 0, api.ErrEscape, 0},
		{"\\q\xff", 0, api.ErrEscape, 0}, {"\\", 0, api.ErrEnd, 1},
	})
	for _, p := range []string{"\ufffd", "\\\ufffd", "[\ufffd"} { // what a malformed part stands for may stand there itself
		if _, f := token.Scan([]byte(p)); f.Code != api.OK {
			t.Errorf("Scan(%q): fault %v", p, f)
		}
	}
}

func TestFaultsOfEnds(t *testing.T) { // P13.1: ErrEnd
	whole := []struct {
		p     string
		parts []int // the lengths at which what stands there is tokens
	}{
		{`\.`, nil}, {`\é`, nil}, {`\n`, nil}, {`\d`, nil}, {`\A`, nil}, {`\X`, nil}, {`\9`, nil},
		{`\b{g}`, []int{2}}, {`\B{w}`, []int{2}}, {`\p{gc=Lu}`, nil}, {`\P{Script: Greek}`, nil}, {`\x{10FFFF}`, nil}, {`\x{1}`, nil}, {`\k{12}`, nil}, {`\k<name_20_bytes_long_>`, nil},
		{"(?:", []int{1}}, {"(?=", []int{1}}, {"(?>", []int{1}}, {"(?<=", []int{1}}, {"(?<!", []int{1}}, {"(?<name>", []int{1}}, {"{2}", nil}, {"{099,}?", []int{6}}, {"{012,100}+", []int{9}},
	}
	for _, c := range whole {
		for _, ahead := range []string{"", "ab"} {
			for n := 1; n < len(c.p); n++ {
				if !utf8.ValidString(c.p[:n]) {
					continue
				}
				want := api.Fault{Code: api.ErrEnd, At: n + len(ahead)}
				if slices.Contains(c.parts, n) {
					want = api.Fault{}
				}
				if l, f := token.Scan([]byte(ahead + c.p[:n])); f != want || want.Code == api.ErrEnd && len(l) != len(ahead) {
					t.Errorf("Scan(%q): %d tokens, fault %v, want %v", ahead+c.p[:n], len(l), f, want)
				}
			}
		}
	}
	checkFaults(t, []fault{ // how great numbers are, and what names mean, plays no part
		{"a{999", 1, api.ErrEnd, 5}, {"a{999,", 1, api.ErrEnd, 6}, {"a{3,1", 1, api.ErrEnd, 5}, {"a{3,001", 1, api.ErrEnd, 7}, {`\x{d800`, 0, api.ErrEnd, 7}, {`\x{ffffff`, 0, api.ErrEnd, 9}, {`\k{0`, 0, api.ErrEnd, 4}, {`\k{00`, 0, api.ErrEnd, 5}, {`\p{zz`, 0, api.ErrEnd, 5}, {`\p{gc=zz=`, 0, api.ErrEnd, 9}, {`[\p{é`, 1, api.ErrEnd, 6},
		{`[\`, 1, api.ErrEnd, 2}, {`[\x{`, 1, api.ErrEnd, 4}, {`[\p`, 1, api.ErrEnd, 3},
		{"a{1234", 1, api.ErrRepeat, 1}, {"a{,", 1, api.ErrRepeat, 1}, {"a{1,2,", 1, api.ErrRepeat, 1}, {"a{1,2345", 1, api.ErrRepeat, 1}, {"a{x", 1, api.ErrRepeat, 1}, {"a{1 ", 1, api.ErrRepeat, 1}, {`\x{1234567`, 0, api.ErrEscape, 0}, {`\x{g`, 0, api.ErrEscape, 0}, {`\xA`, 0, api.ErrEscape, 0}, {`\k{123`, 0, api.ErrEscape, 0}, {`\k{a`, 0, api.ErrEscape, 0}, {`\k<1`, 0, api.ErrEscape, 0}, {`\k(`, 0, api.ErrEscape, 0}, {`\pL`, 0, api.ErrEscape, 0}, {`\b{x`, 0, api.ErrEscape, 0}, {`\b{gx`, 0, api.ErrEscape, 0}, {`\B{2`, 0, api.ErrEscape, 0},
		{"(?P", 0, api.ErrMark, 0}, {"(?<1", 0, api.ErrMark, 0}, {"(?<n-", 0, api.ErrMark, 0}, {"(?<" + strings.Repeat("x", 20), 0, api.ErrEnd, 23}, {"(?<" + strings.Repeat("x", 21), 0, api.ErrMark, 0}, {`\k<` + strings.Repeat("x", 20), 0, api.ErrEnd, 23}, {`\k<` + strings.Repeat("x", 21), 0, api.ErrEscape, 0},
	})
}

func TestFaultsOfTokens(t *testing.T) { // P13.1: names', ErrRepeat, ErrMark, ErrEscape
	checkFaults(t, []fault{
		{`\p{zz}`, 0, api.ErrName, 0}, {`a\P{}`, 1, api.ErrName, 1}, {`\p{foo=L}`, 0, api.ErrName, 0}, {`ab\p{gc=zz}c`, 2, api.ErrValue, 2}, {`\p{sc=}`, 0, api.ErrValue, 0}, {`\p{é}`, 0, api.ErrName, 0}, {`[\p{zz}`, 1, api.ErrName, 1}, {`[a\P{gc=zz}]`, 2, api.ErrValue, 2}, {"\\p{L\nu}", 0, api.ErrName, 0}, {`\p{{L}`, 0, api.ErrName, 0}, {`\p{d}`, 0, api.ErrName, 0},
		{"a{3,1}", 1, api.ErrRepeat, 1}, {"{101}", 0, api.ErrRepeat, 0}, {"{101,}", 0, api.ErrRepeat, 0}, {"{0,101}", 0, api.ErrRepeat, 0}, {"{999}", 0, api.ErrRepeat, 0}, {"{999,1}", 0, api.ErrRepeat, 0}, {"{100,99}", 0, api.ErrRepeat, 0}, {"{1,0}", 0, api.ErrRepeat, 0},
		{"{}", 0, api.ErrRepeat, 0}, {"a{,3}", 1, api.ErrRepeat, 1}, {"{,}", 0, api.ErrRepeat, 0}, {"{-1}", 0, api.ErrRepeat, 0}, {"{ 1}", 0, api.ErrRepeat, 0}, {"{1 }", 0, api.ErrRepeat, 0}, {"{1, 2}", 0, api.ErrRepeat, 0}, {"{a}", 0, api.ErrRepeat, 0}, {"{1a}", 0, api.ErrRepeat, 0}, {"{f}", 0, api.ErrRepeat, 0}, {"{1,2,3}", 0, api.ErrRepeat, 0}, {"{0001}", 0, api.ErrRepeat, 0}, {"{1,0002}", 0, api.ErrRepeat, 0}, {"{2)", 0, api.ErrRepeat, 0}, {"{{2}", 0, api.ErrRepeat, 0}, {"{\u0662}", 0, api.ErrRepeat, 0},
		{"(?x)", 0, api.ErrMark, 0}, {"a(?)", 1, api.ErrMark, 1}, {"((??", 1, api.ErrMark, 1}, {"(?<>", 0, api.ErrMark, 0}, {"(?<1a>", 0, api.ErrMark, 0}, {"(?<a-b>", 0, api.ErrMark, 0}, {"(?<a b>", 0, api.ErrMark, 0}, {"(?<é>", 0, api.ErrMark, 0}, {"(?<n)", 0, api.ErrMark, 0}, {"(?P<n>", 0, api.ErrMark, 0}, {"(?'n'", 0, api.ErrMark, 0}, {"(?*", 0, api.ErrMark, 0}, {"(?(", 0, api.ErrMark, 0}, {`(?\`, 0, api.ErrMark, 0}, {"(?<" + strings.Repeat("x", 21) + ">", 0, api.ErrMark, 0}, {"(?é", 0, api.ErrMark, 0},
		{`\q`, 0, api.ErrEscape, 0}, {`a\0`, 1, api.ErrEscape, 1}, {`\Z`, 0, api.ErrEscape, 0}, {`\a`, 0, api.ErrEscape, 0}, {`\N`, 0, api.ErrEscape, 0}, {`\K`, 0, api.ErrEscape, 0}, {`\u0041`, 0, api.ErrEscape, 0},
		{`\x41`, 0, api.ErrEscape, 0}, {`\x{}`, 0, api.ErrEscape, 0}, {`\x{d800}`, 0, api.ErrEscape, 0}, {`\x{DFFF}`, 0, api.ErrEscape, 0}, {`\x{110000}`, 0, api.ErrEscape, 0}, {`\x{ffffff}`, 0, api.ErrEscape, 0}, {`\x{0000041}`, 0, api.ErrEscape, 0}, {`\x{ 41}`, 0, api.ErrEscape, 0}, {`\x{4g}`, 0, api.ErrEscape, 0}, {`\x{41)`, 0, api.ErrEscape, 0},
		{`\k{0}`, 0, api.ErrEscape, 0}, {`\k{00}`, 0, api.ErrEscape, 0}, {`\k{100}`, 0, api.ErrEscape, 0}, {`\k{}`, 0, api.ErrEscape, 0}, {`\k{n}`, 0, api.ErrEscape, 0}, {`\k{a}`, 0, api.ErrEscape, 0}, {`\k{1>`, 0, api.ErrEscape, 0}, {`\k<1>`, 0, api.ErrEscape, 0}, {`\k<>`, 0, api.ErrEscape, 0}, {`\k<n}`, 0, api.ErrEscape, 0}, {`\k1`, 0, api.ErrEscape, 0}, {`\k<` + strings.Repeat("x", 21) + ">", 0, api.ErrEscape, 0},
		{`\p{L}\pL`, 1, api.ErrEscape, 5}, {`\p<L>`, 0, api.ErrEscape, 0}, {`\P(`, 0, api.ErrEscape, 0},
		{`\b{2}`, 0, api.ErrEscape, 0}, {`a\B{2,}`, 1, api.ErrEscape, 1}, {`\b{}`, 0, api.ErrEscape, 0}, {`\b{G}`, 0, api.ErrEscape, 0}, {`\b{gw}`, 0, api.ErrEscape, 0}, {`\b{g)`, 0, api.ErrEscape, 0}, {`\B{x}`, 0, api.ErrEscape, 0}, {`\b{{`, 0, api.ErrEscape, 0},
		{`[\b]`, 1, api.ErrEscape, 1}, {`[\B{g}]`, 1, api.ErrEscape, 1}, {`[\A`, 1, api.ErrEscape, 1}, {`[\z`, 1, api.ErrEscape, 1}, {`[\X`, 1, api.ErrEscape, 1}, {`[\1`, 1, api.ErrEscape, 1}, {`[\k`, 1, api.ErrEscape, 1}, {`[\k{1}`, 1, api.ErrEscape, 1}, {`[\k<`, 1, api.ErrEscape, 1}, {`[a[b\q`, 4, api.ErrEscape, 4}, {`[\0`, 1, api.ErrEscape, 1}, {`[\x{d800}`, 1, api.ErrEscape, 1}, {`[[a]\b`, 4, api.ErrEscape, 4},
	})
	for r := range 128 { // each letter and digit that is no escape's, with nothing behind it
		c := string(rune(r))
		letter := strings.Contains("abcdefghijklmnopqrstuvwxyzABCDEFGHIJKLMNOPQRSTUVWXYZ0123456789", c)
		outside, within := api.OK, api.OK
		switch {
		case strings.Contains("pPx", c):
			outside, within = api.ErrEnd, api.ErrEnd
		case strings.Contains("dwsDWSntr", c) || !letter:
		case c == "k":
			outside, within = api.ErrEnd, api.ErrEscape
		case strings.Contains("AzbBX123456789", c):
			within = api.ErrEscape
		default:
			outside, within = api.ErrEscape, api.ErrEscape
		}
		if _, f := token.Scan([]byte(`\` + c)); f.Code != outside {
			t.Errorf("\\%s: fault %v, want %v", c, f, outside)
		}
		if _, f := token.Scan([]byte(`[\` + c)); f.Code != within {
			t.Errorf("[\\%s: fault %v, want %v", c, f, within)
		}
	}
}

func TestEachDigit(t *testing.T) { // P13.1: which bytes are digits, and letters of names
	for b := range 256 {
		c := string([]byte{byte(b)})
		hex := strings.Index("0123456789abcdef", strings.ToLower(c))
		decimal := strings.Index("0123456789", c)
		word := regexp.MustCompile("^[A-Za-z_]$").MatchString(c)
		for _, x := range []struct {
			p    string
			want api.Token
			ok   bool
		}{
			{`\x{` + c + "}", char(hex), hex >= 0}, {`\x{1` + c + "0}", char(0x100 + 16*hex), hex >= 0}, {"{" + c + "}", repeat(decimal, decimal, 0), decimal >= 0}, {"{0,3" + c + "}", repeat(0, 30+decimal, 0), decimal >= 0}, {`\k{` + c + "}", back(decimal, ""), decimal > 0}, {`\k{1` + c + "}", back(10+decimal, ""), decimal >= 0},
			{"(?<" + c + ">", open(2, c), word}, {"(?<a" + c + ">", open(2, "a"+c), word || decimal >= 0}, {`\k<` + c + "z>", back(0, c+"z"), word},
		} {
			if strings.Contains("}>,", c) {
				continue // what ends a number or a name
			}
			l, f := token.Scan([]byte(x.p))
			x.want.End = len(x.p)
			if x.ok != (f.Code == api.OK && len(l) == 1 && l[0] == x.want) {
				t.Errorf("Scan(%q) = %v, %v", x.p, l, f)
			}
		}
	}
}

func TestPatternsThatAreTooLong(t *testing.T) { // P13.1: ErrFull
	for _, piece := range []string{"a", `\`, "\xff", "(?", "é"} {
		p := strings.Repeat(piece, api.MaxPattern)
		for _, n := range []int{api.MaxPattern + 1, 2 * api.MaxPattern, 1 << 20} {
			long := []byte(strings.Repeat("a", n-1) + p)[:n]
			if l, f := token.Scan(long); f != (api.Fault{Code: api.ErrFull, At: api.MaxPattern}) || len(l) != 0 {
				t.Errorf("%d bytes: %d tokens, fault %v", n, len(l), f)
			}
		}
	}
	if l, f := token.Scan([]byte(strings.Repeat("a", api.MaxPattern))); f != (api.Fault{}) || len(l) != api.MaxPattern {
		t.Errorf("of MaxPattern bytes: %d tokens, fault %v", len(l), f)
	}
	if l, f := token.Scan([]byte(strings.Repeat("[", api.MaxPattern-1) + `\`)); f != (api.Fault{Code: api.ErrEnd, At: api.MaxPattern}) || len(l) != api.MaxPattern-1 {
		t.Errorf("of MaxPattern bytes with a fault: %d tokens, fault %v", len(l), f)
	}
	for _, p := range [][]byte{nil, {}} {
		if l, f := token.Scan(p); f != (api.Fault{}) || len(l) != 0 {
			t.Errorf("of nothing: %v, fault %v", l, f)
		}
	}
}

func TestEachName(t *testing.T) { // P13.1: properties, by either name of each value
	for line := range strings.SplitSeq(api.Aliases(), "\n") {
		f := strings.Split(line, " ; ")
		if len(f) != 3 || f[0] == "pr" || strings.HasPrefix(line, "#") {
			continue
		}
		want := map[string]string{"gc": "gc=", "sc": "sc=", "bi": ""}[f[0]] + f[1]
		for _, expr := range []string{f[1], f[2], " is " + strings.ToUpper(f[2]), want} {
			for _, class := range []string{"", "["} {
				l := scanned(t, class+`\p{`+expr+`}\P{`+expr+`}`)
				if got := l[len(class):]; !slices.Equal(got, list(prop(want, false), prop(want, true))) {
					t.Errorf("%s\\p{%s}: %v, want %s", class, expr, got, want)
				}
			}
		}
	}
}

func TestPrint(t *testing.T) { // P13.2
	for _, c := range []struct {
		r                 int
		outside, inAClass string
	}{
		{'a', "a", "a"}, {'.', `\.`, "."}, {'[', `\[`, `\[`}, {'(', `\(`, "("}, {')', `\)`, ")"}, {'|', `\|`, "|"}, {'*', `\*`, "*"}, {'+', `\+`, "+"}, {'?', `\?`, "?"}, {'{', `\{`, "{"}, {'^', `\^`, `\^`}, {'$', `\$`, "$"}, {'\\', `\\`, `\\`},
		{']', "]", `\]`}, {'-', "-", `\-`}, {'&', "&", `\&`}, {'~', "~", `\~`}, {'}', "}", "}"}, {' ', " ", " "}, {'_', "_", "_"}, {'0', "0", "0"}, {'/', "/", "/"}, {'#', "#", "#"}, {',', ",", ","},
		{0, `\x{0}`, `\x{0}`}, {9, `\x{9}`, `\x{9}`}, {10, `\x{A}`, `\x{A}`}, {31, `\x{1F}`, `\x{1F}`}, {32, " ", " "}, {126, "~", `\~`}, {127, `\x{7F}`, `\x{7F}`}, {128, "\u0080", "\u0080"}, {0xe9, "é", "é"}, {0xfffd, "\ufffd", "\ufffd"}, {0xd7ff, "\ud7ff", "\ud7ff"}, {0xe000, "\ue000", "\ue000"}, {0x10ffff, "\U0010ffff", "\U0010ffff"},
		{0xd800, "", ""}, {0xdbff, "", ""}, {0xdfff, "", ""}, {-1, "", ""}, {api.MaxRune + 1, "", ""}, {math.MinInt, "", ""}, {math.MaxInt, "", ""}, {1 << 32, "", ""}, {1<<32 + 'a', "", ""},
	} {
		if got := token.Print(c.r, false); got != c.outside {
			t.Errorf("Print(%x, false) = %q, want %q", c.r, got, c.outside)
		}
		if got := token.Print(c.r, true); got != c.inAClass {
			t.Errorf("Print(%x, true) = %q, want %q", c.r, got, c.inAClass)
		}
	}
	for r := range api.MaxRune + 1 {
		for _, class := range []bool{false, true} {
			special := `.[()|*+?{^$\`
			if class {
				special = `[]^-&~\`
			}
			want := string(rune(r))
			switch {
			case r >= 0xd800 && r <= 0xdfff:
				want = ""
			case r < 32 || r == 127:
				want = fmt.Sprintf(`\x{%X}`, r)
			case strings.ContainsRune(special, rune(r)):
				want = `\` + want
			}
			if got := token.Print(r, class); got != want {
				t.Fatalf("Print(%x, %v) = %q, want %q", r, class, got, want)
			}
		}
	}
}

func TestScanOfPrint(t *testing.T) { // P13.3
	for r := range api.MaxRune + 1 {
		if r >= 0xd800 && r <= 0xdfff {
			continue
		}
		for _, ahead := range []string{"", "["} {
			p := ahead + token.Print(r, ahead != "")
			l, f := token.Scan([]byte(p))
			want := api.Token{Kind: api.TokChar, A: r, Start: len(ahead), End: len(p)}
			if f != (api.Fault{}) || len(l) != len(ahead)+1 || l[len(ahead)] != want {
				t.Fatalf("Scan(%q) = %v, %v", p, l, f)
			}
		}
	}
}

func TestMemory(t *testing.T) { // the rule Memory
	room := []byte(`(?<name>a\k<name>\p{Lu}[^x--\d]\q and more`)
	p := room[:len(room)-len(" and more")]
	was := string(room)
	first, f := token.Scan(p)
	if string(room) != was {
		t.Errorf("Scan changed its argument to %q", room)
	}
	kept := fmt.Sprint(first)
	second, g := token.Scan(p)
	if f != g || fmt.Sprint(second) != kept {
		t.Errorf("Scan told %v %v, then %v %v", first, f, second, g)
	}
	clear(room)
	clear(second[:cap(second)])
	if fmt.Sprint(first) != kept {
		t.Errorf("an answer became %v", first)
	}
}
