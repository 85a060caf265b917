package vm_test

import (
	"fmt"
	"math"
	"slices"
	"strings"
	"testing"

	"rubricator/api"
	"rubricator/compile"
	"rubricator/lower"
	"rubricator/parse"
	"rubricator/props"
	"rubricator/vm"
)

var (
	much  = api.Budget{Steps: 1_000_000, Depth: 1_000_000}
	plain = api.Options{}
	multi = api.Options{Multi: true}
)

func points(text string) []int {
	var out []int
	for _, r := range text {
		out = append(out, int(r))
	}
	return out
}

// program is a pattern's program.
func program(t *testing.T, x *props.Tables, pattern string, o api.Options) api.Prog {
	t.Helper()
	n, f := parse.Parse([]byte(pattern))
	if f.Code != api.OK {
		t.Fatalf("%s: %v", pattern, f)
	}
	n, e := lower.Lower(x, n, o)
	if e != api.OK {
		t.Fatalf("%s: %v", pattern, e)
	}
	p, e := compile.Prog(n, o)
	if e != api.OK {
		t.Fatalf("%s: %v", pattern, e)
	}
	return p
}

func inst(op, x, y int) api.Inst { return api.Inst{Op: op, X: x, Y: y} }

var (
	done = inst(api.OpDone, 0, 0)
	some = inst(api.OpCluster, 0, 0)
)

func set(l ...int) api.Inst {
	i := api.Inst{Op: api.OpSet}
	for _, r := range l {
		i.Set = append(i.Set, api.Range{Lo: r, Hi: r})
	}
	return i
}

func save(x int) api.Inst     { return inst(api.OpSave, x, 0) }
func mark(x int) api.Inst     { return inst(api.OpMark, x, 0) }
func check(x, y int) api.Inst { return inst(api.OpCheck, x, y) }
func split(x, y int) api.Inst { return inst(api.OpSplit, x, y) }
func jump(x int) api.Inst     { return inst(api.OpJump, x, 0) }
func atom(y int) api.Inst     { return inst(api.OpAtomic, 0, y) }
func back(x int) api.Inst     { return inst(api.OpBack, x, 0) }
func look(mode, y, least, most int) api.Inst {
	return api.Inst{Op: api.OpLook, X: mode, Y: y, Min: least, Max: most}
}

// by is a program of two groups and three marks.
func by(code ...api.Inst) api.Prog {
	return api.Prog{Code: code, Groups: 2, Marks: 3, Names: make([]string, 3)}
}

// told is a result in words.
func told(r api.Result) string {
	kind := []string{"zero", "none", "match", "exceeded"}[r.Kind]
	if r.Kind == api.Match {
		return fmt.Sprint(kind, " ", r.Steps, " ", r.Caps)
	}
	if len(r.Caps) > 0 {
		return "places without a match"
	}
	return fmt.Sprint(kind, " ", r.Steps)
}

func TestInstructions(t *testing.T) { // P20.1: what each does, and how many steps are taken
	x := props.Load()
	for _, c := range []struct {
		what string
		p    api.Prog
		text string
		at   int
		want string
	}{
		{"the end", by(done), "", 0, "match 1 [-1 -1 -1 -1 -1 -1]"}, {"an end ahead", by(done, some, done), "", 0, "match 1 [-1 -1 -1 -1 -1 -1]"},
		{"a set", by(set('a'), save(1), done), "ab", 0, "match 3 [-1 1 -1 -1 -1 -1]"}, {"another one", by(set('a'), done), "ba", 0, "none 1"}, {"from a place", by(set('a'), save(1), done), "ba", 1, "match 3 [-1 2 -1 -1 -1 -1]"}, {"nothing there", by(set('a'), done), "a", 1, "none 1"}, {"an empty set", by(set(), done), "a", 0, "none 1"},
		{"a way that is not needed", by(split(1, 2), set('a'), save(0), done), "a", 0, "match 4 [1 -1 -1 -1 -1 -1]"}, {"a way that is", by(split(1, 2), set('a'), save(0), done), "b", 0, "match 4 [0 -1 -1 -1 -1 -1]"}, {"the other first", by(split(2, 1), set('a'), save(0), done), "a", 0, "match 3 [0 -1 -1 -1 -1 -1]"}, {"a way from its place", by(split(1, 3), set('a'), set('b'), save(0), done), "aa", 0, "match 5 [0 -1 -1 -1 -1 -1]"},
		{"a jump", by(jump(2), set('a'), done), "", 0, "match 2 [-1 -1 -1 -1 -1 -1]"}, {"a jump back", by(jump(3), set('a'), done, jump(1), done), "a", 0, "match 4 [-1 -1 -1 -1 -1 -1]"},
		{"what is saved", by(save(2), set('a'), save(3), save(0), done), "aa", 1, "match 5 [2 -1 1 2 -1 -1]"}, {"saved again", by(save(2), set('a'), save(2), done), "a", 0, "match 4 [-1 -1 1 -1 -1 -1]"}, {"saved, and undone", by(save(2), split(2, 5), save(2), save(3), set('a'), done), "b", 0, "match 6 [-1 -1 0 -1 -1 -1]"},
		{"a mark here", by(mark(1), check(1, 3), save(0), done), "", 0, "match 3 [-1 -1 -1 -1 -1 -1]"}, {"a mark elsewhere", by(mark(1), set('a'), check(1, 4), save(0), done), "a", 0, "match 5 [1 -1 -1 -1 -1 -1]"}, {"another mark", by(mark(1), check(2, 3), save(0), done), "", 0, "match 4 [0 -1 -1 -1 -1 -1]"}, {"a mark, undone", by(split(1, 3), mark(0), set('a'), check(0, 5), save(0), done), "b", 0, "match 6 [0 -1 -1 -1 -1 -1]"},
		{"a cluster", by(some, save(1), done), "e\u0301a", 0, "match 3 [-1 2 -1 -1 -1 -1]"}, {"the rest of one", by(some, save(1), done), "e\u0301\u0301a", 1, "match 3 [-1 3 -1 -1 -1 -1]"}, {"no cluster", by(some, done), "a", 1, "none 1"}, {"of nothing", by(some, done), "", 0, "none 1"},
		{"a group once more", by(save(2), some, save(3), back(1), save(1), done), "aab", 0, "match 6 [-1 2 0 1 -1 -1]"}, {"another text", by(save(2), some, save(3), back(1), done), "ab", 0, "none 4"}, {"too short", by(save(2), some, some, save(3), back(1), done), "aba", 0, "none 5"}, {"no place", by(back(1), done), "a", 0, "none 1"}, {"no end", by(save(4), back(2), done), "a", 0, "none 2"}, {"no beginning", by(save(5), back(2), done), "a", 0, "none 2"}, {"falling", by(save(3), set('a'), save(2), back(1), done), "aa", 0, "none 4"}, {"an empty one", by(save(2), save(3), back(1), save(0), done), "", 0, "match 5 [0 -1 0 0 -1 -1]"}, {"the other group", by(save(4), set('a'), save(5), save(2), set('b'), save(3), back(2), save(1), done), "aba", 0, "match 9 [-1 3 1 2 0 1]"},
	} {
		if got := told(vm.Run(x, c.p, points(c.text), c.at, much)); got != c.want {
			t.Errorf("%s: %s, want %s", c.what, got, c.want)
		}
	}
}

func TestLooks(t *testing.T) { // P20.1: runs within
	x := props.Load()
	for _, c := range []struct {
		what string
		code []api.Inst
		text string
		at   int
		want string
	}{
		{"ahead", []api.Inst{look(0, 3, 0, 0), set('a'), done, save(0), done}, "a", 0, "match 5 [0 -1 -1 -1 -1 -1]"}, {"not there", []api.Inst{look(0, 3, 0, 0), set('a'), done, done}, "b", 0, "none 2"}, {"what was saved stays", []api.Inst{look(0, 4, 0, 0), save(2), set('a'), done, save(0), done}, "a", 0, "match 6 [0 -1 0 -1 -1 -1]"}, {"and is undone further back", []api.Inst{split(1, 6), look(0, 5, 0, 0), save(2), set('a'), done, set('b'), done}, "a", 0, "match 7 [-1 -1 -1 -1 -1 -1]"}, {"ways are taken out", []api.Inst{look(0, 4, 0, 0), split(2, 3), save(2), done, set('b'), done}, "a", 0, "none 5"},
		{"not ahead", []api.Inst{look(1, 4, 0, 0), save(2), set('a'), done, save(0), done}, "b", 0, "match 5 [0 -1 -1 -1 -1 -1]"}, {"ahead, though it may not", []api.Inst{split(1, 7), look(1, 5, 0, 0), save(2), set('a'), done, save(0), done, done}, "a", 0, "match 6 [-1 -1 -1 -1 -1 -1]"}, {"its ways are no ways", []api.Inst{look(1, 5, 0, 0), split(2, 3), set('a'), save(2), done, done}, "a", 0, "none 5"}, {"its ways are gone through", []api.Inst{look(1, 5, 0, 0), split(2, 4), set('a'), set('b'), done, done}, "a", 0, "none 5"},
		{"behind", []api.Inst{look(2, 3, 1, 1), set('a'), done, save(0), done}, "ab", 1, "match 5 [1 -1 -1 -1 -1 -1]"}, {"nothing so far ahead", []api.Inst{look(2, 3, 1, 1), set('a'), done, done}, "ab", 0, "none 1"}, {"not so far ahead", []api.Inst{look(3, 3, 1, 1), set('a'), done, save(0), done}, "ab", 0, "match 3 [0 -1 -1 -1 -1 -1]"}, {"the nearest first", []api.Inst{look(2, 7, 1, 3), save(2), split(3, 5), some, jump(2), save(3), done, save(0), done}, "abcd", 3, "match 16 [3 -1 2 3 -1 -1]"}, {"further ahead", []api.Inst{look(2, 5, 1, 3), save(2), set('b'), set('c'), done, save(0), done}, "abcd", 3, "match 9 [3 -1 1 -1 -1 -1]"}, {"up to the beginning", []api.Inst{look(2, 4, 1, 50), save(2), set('x'), done, done}, "abcd", 3, "none 7"}, {"up to the most", []api.Inst{look(2, 4, 0, 2), save(2), set('x'), done, done}, "abcd", 3, "none 7"}, {"from the least on", []api.Inst{look(2, 4, 2, 2), save(2), set('x'), done, done}, "abcd", 3, "none 3"}, {"an end elsewhere", []api.Inst{look(2, 3, 2, 2), set('b'), done, done}, "abcd", 3, "none 3"}, {"an end elsewhere, and a way", []api.Inst{look(2, 5, 2, 2), split(2, 3), set('b'), jump(4), done, done}, "bc", 2, "none 7"}, {"an end in the end", []api.Inst{look(2, 6, 2, 2), set('b'), split(3, 4), jump(5), some, done, done}, "bc", 2, "match 8 [-1 -1 -1 -1 -1 -1]"}, {"an end behind", []api.Inst{look(2, 3, 0, 0), some, done, done}, "bc", 0, "none 3"},
		{"not behind", []api.Inst{look(3, 4, 1, 2), save(2), set('a'), done, save(0), done}, "bbb", 2, "match 7 [2 -1 -1 -1 -1 -1]"}, {"behind, though it may not", []api.Inst{look(3, 4, 1, 2), save(2), set('b'), done, save(0), done}, "bbb", 2, "none 4"}, {"behind, further ahead", []api.Inst{split(1, 8), look(3, 6, 1, 2), save(2), set('a'), some, done, save(0), done, done}, "abb", 2, "match 9 [-1 -1 -1 -1 -1 -1]"},
		{"at once", []api.Inst{atom(3), set('a'), done, save(0), done}, "a", 0, "match 5 [1 -1 -1 -1 -1 -1]"}, {"not at once", []api.Inst{atom(3), set('a'), done, done}, "b", 0, "none 2"}, {"its ways are taken out", []api.Inst{atom(4), split(2, 3), set('a'), done, set('a'), done}, "a", 0, "none 5"}, {"others stay", []api.Inst{split(1, 5), atom(4), set('a'), done, set('b'), done}, "a", 0, "match 6 [-1 -1 -1 -1 -1 -1]"}, {"what it saved stays", []api.Inst{atom(6), save(2), split(3, 4), set('a'), save(3), done, save(1), done}, "a", 0, "match 8 [-1 1 0 1 -1 -1]"}, {"and goes", []api.Inst{split(1, 5), atom(4), save(2), done, set('b'), done}, "a", 0, "match 6 [-1 -1 -1 -1 -1 -1]"},
		{"X of what is at once", []api.Inst{{Op: api.OpAtomic, X: api.NotBehind, Y: 3, Min: 9, Max: 9}, set('a'), done, save(0), done}, "a", 0, "match 5 [1 -1 -1 -1 -1 -1]"}, {"Min and Max of what is ahead", []api.Inst{look(0, 3, 1, 2), set('a'), done, save(0), done}, "ba", 1, "match 5 [1 -1 -1 -1 -1 -1]"}, {"and of what is not", []api.Inst{look(1, 3, 1, 2), set('b'), done, save(0), done}, "ba", 1, "match 4 [1 -1 -1 -1 -1 -1]"},
		{"an end within a block", []api.Inst{look(0, 5, 0, 0), split(2, 3), done, set('a'), done, save(0), done}, "b", 0, "match 5 [0 -1 -1 -1 -1 -1]"}, {"one end of two", []api.Inst{look(0, 4, 0, 0), atom(4), set('a'), done, save(0), done, done}, "ab", 0, "match 8 [0 -1 -1 -1 -1 -1]"}, {"looks within looks", []api.Inst{look(1, 8, 0, 0), look(1, 4, 0, 0), set('a'), done, save(2), some, some, done, save(0), done}, "ab", 0, "match 6 [0 -1 -1 -1 -1 -1]"}, {"three within one another", []api.Inst{look(0, 9, 0, 0), some, look(2, 7, 1, 2), atom(6), set('a'), done, done, set('b'), done, save(1), done}, "ab", 0, "match 11 [-1 0 -1 -1 -1 -1]"},
	} {
		p := by(c.code...)
		if !compile.Can(p) {
			t.Fatalf("%s: %v may not be", c.what, p)
		}
		if got := told(vm.Run(x, p, points(c.text), c.at, much)); got != c.want {
			t.Errorf("%s: %s, want %s", c.what, got, c.want)
		}
	}
}

// places are those of a text, as a text of 1 and 0, at which an assertion is so.
func places(x *props.Tables, mode int, text string, o api.Options) string {
	p := by(inst(api.OpAssert, mode, 0), done)
	p.Options = o
	l := points(text)
	var out []byte
	for at := range len(l) + 1 {
		switch r := vm.Run(x, p, l, at, much); told(r) {
		case "match 2 [-1 -1 -1 -1 -1 -1]":
			out = append(out, '1')
		case "none 1":
			out = append(out, '0')
		default:
			out = append(out, '?')
		}
	}
	return string(out)
}

func TestAssertions(t *testing.T) { // P20.1
	x := props.Load()
	for _, c := range []struct {
		mode  int
		text  string
		o     api.Options
		want  string
		other int // the mode that says the contrary
	}{
		{api.AtBegin, "", plain, "1", 0}, {api.AtBegin, "a\nb\n", plain, "10000", 0}, {api.AtBegin, "a\nb\n", multi, "10101", 0}, {api.AtBegin, "", multi, "1", 0}, {api.AtBegin, "\r\n\r\r\n\n", multi, "1011011", 0}, {api.AtBegin, "\u0085a\u2028b\u2029\n\r", multi, "11010111", 0}, {api.AtBegin, "\v\f\t a", multi, "100000", 0}, {api.AtBegin, "\r", multi, "11", 0}, {api.AtBegin, "\u2027\u202a\u0084\u0086", multi, "10000", 0},
		{api.AtEnd, "", plain, "1", 0}, {api.AtEnd, "a\nb\n", plain, "00001", 0}, {api.AtEnd, "a\nb\n", multi, "01011", 0}, {api.AtEnd, "", multi, "1", 0}, {api.AtEnd, "\r\n\r\r\n\n", multi, "1011011", 0}, {api.AtEnd, "\u0085a\u2028b\u2029\n\r", multi, "10101111", 0}, {api.AtEnd, "\v\f\t a", multi, "000001", 0}, {api.AtEnd, "\n", multi, "11", 0},
		{api.TextBegin, "", plain, "1", 0}, {api.TextBegin, "\n\n", multi, "100", 0}, {api.TextEnd, "", plain, "1", 0}, {api.TextEnd, "\n\n", multi, "001", 0}, {api.TextBegin, "ab", plain, "100", 0}, {api.TextEnd, "ab", plain, "001", 0},
		{api.WordEdge, "can't", plain, "100111", api.NoWordEdge}, {api.WordEdge, "", plain, "0", api.NoWordEdge}, {api.WordEdge, "-a-", multi, "0110", api.NoWordEdge},
		{api.Cluster, "e\u0301a", plain, "1011", api.NoCluster}, {api.Cluster, "", plain, "0", api.NoCluster}, {api.Cluster, "\r\n\r", multi, "1011", api.NoCluster},
		{api.Words, "can't", plain, "100001", api.NoWords}, {api.Words, "", plain, "0", api.NoWords}, {api.Words, "a  b", plain, "11011", api.NoWords},
	} {
		for fold := range 3 {
			o := c.o
			o.Fold, o.Dot, o.Canon = fold, fold == 1, fold == 2
			if got := places(x, c.mode, c.text, o); got != c.want {
				t.Errorf("%d of %q with %+v: %s, want %s", c.mode, c.text, o, got, c.want)
			}
			if c.other == 0 {
				continue
			}
			contrary := strings.NewReplacer("0", "1", "1", "0").Replace(c.want)
			if got := places(x, c.other, c.text, o); got != contrary {
				t.Errorf("%d of %q with %+v: %s, want %s", c.other, c.text, o, got, contrary)
			}
		}
	}
}

func TestPatterns(t *testing.T) { // P20.1, P20.4
	x := props.Load()
	for _, c := range []struct {
		pattern string
		o       api.Options
		text    string
		want    string // the places, or nothing
	}{
		{"a*", plain, "aa", "0 2"}, {"(a|ab)(c|bcd)(d*)", plain, "abcd", "0 4 0 1 1 4 4 4"}, {"a*?b", plain, "aab", "0 3"}, {"(?>a*)ab", plain, "aab", ""}, {"a*ab", plain, "aab", "0 3"}, {"a*+ab", plain, "aab", ""}, {"(?<=a)b", plain, "ab", ""}, {"a(?<=a)b", plain, "ab", "0 2"}, {`\X`, plain, "e\u0301", "0 2"},
		{"", plain, "", "0 0"}, {"", plain, "abc", "0 0"}, {"|a", plain, "a", "0 0"}, {"a|", plain, "a", "0 1"}, {"a?", plain, "aa", "0 1"}, {"a??", plain, "aa", "0 0"}, {"a{2,3}", plain, "aaaa", "0 3"}, {"a{2,3}?", plain, "aaaa", "0 2"}, {"a{2,3}", plain, "a", ""}, {"a{3}", plain, "aaaa", "0 3"}, {"a{2,}", plain, "aaaa", "0 4"}, {"a{2,}?a", plain, "aaaa", "0 3"}, {"a+", plain, "baa", ""},
		{"(a*)*", plain, "aa", "0 2 2 2"}, {"(a*)+", plain, "aa", "0 2 2 2"}, {"(a*)*", plain, "b", "0 0 0 0"}, {"(?:a*)*b", plain, "aab", "0 3"}, {"(a|b)*", plain, "abab", "0 4 3 4"}, {"(a)|b", plain, "b", "0 1 -1 -1"}, {"(?:(a)|b)*", plain, "ab", "0 2 0 1"}, {"(?:(a)|(b))*?c", plain, "abc", "0 3 0 1 1 2"}, {"(a*?)*?b", plain, "aab", "0 3 1 2"}, {"(?:){100}a", plain, "a", "0 1"}, {"(|a)*", plain, "aa", "0 0 0 0"}, {"(|a)+", plain, "aa", "0 0 0 0"}, {"(|a)*b", plain, "aab", "0 3 2 2"}, {"(a|){2,4}", plain, "aaa", "0 3 3 3"},
		{`(a+)\1`, plain, "aaaa", "0 4 0 2"}, {`(a+)\1`, plain, "aaa", "0 2 0 1"}, {`(a)?\1b`, plain, "b", ""}, {`(a|b\1)+`, plain, "aba", "0 3 2 3"}, {`(?<n>ab)\k<n>`, plain, "abab", "0 4 0 2"}, {`(?<n>ab)\k<n>`, api.Options{Fold: 1}, "aBAb", "0 4 0 2"}, {`(?<n>ab)\k<n>`, plain, "abAb", ""}, {`(k)\1`, api.Options{Fold: 2}, "k\u212a", "0 2 0 1"}, {`(.)\1`, api.Options{Fold: 2}, "\u00dfss", ""}, {`(.)\1`, plain, "k\u212a", ""},
		{`(?=(a+))a*b\1`, plain, "aaabaaa", "0 7 0 3"}, {`(?!ab)a`, plain, "ab", ""}, {`(?!ab)a`, plain, "ac", "0 1"}, {`(?!(a)b)ac`, plain, "ac", "0 2 -1 -1"}, {`(?=(a|ab))\1c`, plain, "abc", ""}, {`(?:(?=(a|ab))\1c|abc)`, plain, "abc", "0 3 -1 -1"}, {`ab(?<=(a|ab|b))c`, plain, "abc", "0 3 1 2"}, {`ab(?<!b)`, plain, "ab", ""}, {`ab(?<!aa)(?<=^ab)`, plain, "ab", "0 2"}, {`..(?<=(?=(b))b)`, plain, "ab", "0 2 1 2"}, {`ab(?<=(a{0,1}b))`, plain, "ab", "0 2 1 2"}, {`ab(?<=\Ba{0,1}b|^..)`, plain, "ab", "0 2"},
		{`(?>a|ab)c`, plain, "abc", ""}, {`(?>ab|a)c`, plain, "abc", "0 3"}, {`(?>(a)|b)*+c`, plain, "abc", "0 3 0 1"}, {`(?>(?>a*)b)*`, plain, "aabab", "0 5"}, {`(?:(?>a+)b|a+c)`, plain, "aac", "0 3"},
		{"^a$", plain, "a\n", ""}, {"^a$", multi, "a\n", "0 1"}, {`a$\n^b`, multi, "a\nb", "0 3"}, {`a$\n^b`, plain, "a\nb", ""}, {`\Aa\z`, multi, "a\n", ""}, {`a\b.\Bb?`, plain, "a.", "0 2"}, {`\b{w}can't\b{w}`, plain, "can't", "0 5"}, {`e\B{g}.\b{g}`, plain, "e\u0301", "0 2"},
		{"\u00df", api.Options{Fold: api.FoldFull}, "sS", "0 2"}, {"\u00e9", api.Options{Canon: true}, "e\u0301", "0 2"}, {"[\u00e9a]+", api.Options{Canon: true, Fold: api.FoldFull}, "E\u0301\u00e9AaE", "0 5"},
	} {
		r := vm.Run(x, program(t, x, c.pattern, c.o), points(c.text), 0, much)
		got := strings.Trim(fmt.Sprint(r.Caps), "[]")
		if got != c.want || (r.Kind == api.Match) != (c.want != "") || r.Kind == api.Exceeded {
			t.Errorf("%s over %q: %v, want %s", c.pattern, c.text, r, c.want)
		}
	}
}

func TestBudgets(t *testing.T) { // P20.1, P20.2: each number of steps, and of entries
	x := props.Load()
	for _, c := range []struct {
		pattern, text string
		depth         int // the most entries that there are
	}{
		{"a", "a", 2}, {"a", "b", 1}, {"(a|b)*c", "abc", 14}, {"(?>a*)", "aaa", 9}, {"(?=(a*))", "aa", 8}, {"(?!a*)", "aa", 7}, {"a{0,3}", "aaa", 5},
	} {
		p, l := program(t, x, c.pattern, plain), points(c.text)
		full := vm.Run(x, p, l, 0, much)
		if full.Kind == api.Exceeded || full.Kind == 0 {
			t.Fatalf("%s: %v", c.pattern, full)
		}
		for steps := range full.Steps + 3 {
			r := vm.Run(x, p, l, 0, api.Budget{Steps: steps, Depth: math.MaxInt})
			if steps >= full.Steps && told(r) != told(full) || steps < full.Steps && told(r) != fmt.Sprint("exceeded ", steps) {
				t.Errorf("%s with %d steps: %v", c.pattern, steps, r)
			}
		}
		last := 0
		for depth := range c.depth + 3 {
			r := vm.Run(x, p, l, 0, api.Budget{Steps: math.MaxInt, Depth: depth})
			if depth >= c.depth && told(r) != told(full) || depth < c.depth && (r.Kind != api.Exceeded || len(r.Caps) > 0 || r.Steps <= last) {
				t.Errorf("%s with %d entries: %v", c.pattern, depth, r)
			}
			if r.Kind == api.Exceeded {
				last = r.Steps
			}
		}
	}
	p := by(save(0), done)
	for _, c := range []struct {
		b    api.Budget
		want string
	}{
		{api.Budget{}, "exceeded 0"}, {api.Budget{Steps: -1, Depth: -1}, "exceeded 0"}, {api.Budget{Steps: math.MinInt, Depth: 9}, "exceeded 0"}, {api.Budget{Depth: 9}, "exceeded 0"}, {api.Budget{Steps: 9}, "exceeded 1"}, {api.Budget{Steps: 9, Depth: -1}, "exceeded 1"}, {api.Budget{Steps: 9, Depth: math.MinInt}, "exceeded 1"}, {api.Budget{Steps: 1, Depth: 1}, "exceeded 1"}, {api.Budget{Steps: 2, Depth: 1}, "match 2 [0 -1 -1 -1 -1 -1]"}, {api.Budget{Steps: math.MaxInt, Depth: math.MaxInt}, "match 2 [0 -1 -1 -1 -1 -1]"}, {api.Budget{Steps: api.MaxBudget, Depth: api.MaxBudget}, "match 2 [0 -1 -1 -1 -1 -1]"},
	} {
		if got := told(vm.Run(x, p, nil, 0, c.b)); got != c.want {
			t.Errorf("%+v: %s, want %s", c.b, got, c.want)
		}
	}
}

func TestZero(t *testing.T) { // P20.1, the rule Objects
	x := props.Load()
	l := points("ab")
	ok := by(set('a'), done)
	zero := func(what string, r api.Result) {
		t.Helper()
		if r.Kind != 0 || r.Steps != 0 || len(r.Caps) != 0 {
			t.Errorf("%s: %v", what, r)
		}
	}
	for _, none := range []*props.Tables{nil, {}} {
		zero("no tables", vm.Run(none, ok, l, 0, much))
		zero("no tables, no program", vm.Run(none, api.Prog{}, l, -1, much))
	}
	for _, at := range []int{-1, 3, 4, math.MinInt, math.MaxInt} {
		zero("no place", vm.Run(x, ok, l, at, much))
		zero("no place, no budget", vm.Run(x, ok, l, at, api.Budget{}))
	}
	zero("no place in nothing", vm.Run(x, ok, nil, 1, much))
	wrong := ok
	wrong.Names = nil
	for _, p := range []api.Prog{{}, wrong, by(set('a')), by(jump(2), done), by(set('b', 'a'), done), by(save(6), done), by(mark(3), done), by(look(0, 2, 0, 51), done, done), by(atom(2), done), by(inst(api.OpAssert, 11, 0), done), by(inst(13, 0, 0), done), by(back(3), done)} {
		zero("no program", vm.Run(x, p, l, 0, much))
	}
	for at := range 3 {
		if r := vm.Run(x, by(done), l, at, much); r.Kind != api.Match {
			t.Errorf("at %d: %v", at, r)
		}
	}
}

func TestOddNumbers(t *testing.T) { // the rule Ends: what is no code point
	x := props.Load()
	l := []int{-1, math.MinInt, math.MaxInt, api.MaxRune + 1, 0xd800, 0xa, -1, math.MinInt, math.MaxInt, api.MaxRune + 1, 0xd800, 0xa}
	every := api.Inst{Op: api.OpSet, Set: []api.Range{{Lo: 0, Hi: api.MaxRune}}}
	for at := range l {
		p := by(every, done)
		want := map[bool]string{true: "match 2 [-1 -1 -1 -1 -1 -1]", false: "none 1"}[l[at] >= 0 && l[at] <= api.MaxRune]
		if got := told(vm.Run(x, p, l, at, much)); got != want {
			t.Errorf("%x in all code points: %s, want %s", l[at], got, want)
		}
		for fold := range 3 {
			for mode := api.AtBegin; mode <= api.NoWords; mode++ {
				p := by(inst(api.OpAssert, mode, 0), done)
				p.Options = api.Options{Multi: true, Fold: fold}
				if r := vm.Run(x, p, l, at, much); r.Kind != api.Match && r.Kind != api.NoMatch {
					t.Errorf("assertion %d at %d: %v", mode, at, r)
				}
			}
			p = by(save(2), some, some, some, some, some, some, save(3), back(1), save(1), done)
			p.Options.Fold = fold
			if got := told(vm.Run(x, p, l, 0, much)); got != "match 11 [-1 12 0 6 -1 -1]" {
				t.Errorf("once more: %s", got)
			}
		}
	}
}

func TestThatRunsEnd(t *testing.T) { // the rule Ends
	x := props.Load()
	ends := func(what string, p api.Prog, l []int, b api.Budget, want string) {
		t.Helper()
		if got := told(vm.Run(x, p, l, 0, b)); got != want {
			t.Errorf("%s: %s, want %s", what, got, want)
		}
	}
	million := api.Budget{Steps: 3_000_000, Depth: api.MaxBudget}
	long := slices.Repeat([]int{'a'}, 500_000)
	ends("a loop", by(jump(0), done), nil, million, "exceeded 3000000")
	ends("a loop of ways", by(split(0, 0), done), nil, million, "exceeded 3000000")
	ends("a loop of ways, with room for some", by(split(0, 0), done), nil, api.Budget{Steps: 3_000_000, Depth: 70}, "exceeded 71")
	ends("a loop of marks", by(mark(0), jump(0), done), nil, million, "exceeded 3000000")
	ends("a look within itself", by(look(0, 3, 0, 0), atom(3), done, jump(0), done), nil, million, "exceeded 3000000")
	ends("a look behind within itself", by(look(2, 3, 0, 50), atom(3), done, jump(0), done), long, million, "exceeded 3000000")
	ends("ways that are taken out", by(atom(4), split(2, 3), jump(3), done, jump(0), done), nil, api.Budget{Steps: 3_000_000, Depth: 1}, "exceeded 3000000")
	p := program(t, x, "(?:(?>a|b)(?=a*?)|c)*", plain)
	if r := vm.Run(x, p, long, 0, api.Budget{Steps: 100_000_000, Depth: api.MaxBudget}); r.Kind != api.Match || r.Caps[1] != len(long) {
		t.Errorf("a long one: %v", r)
	}
	p = program(t, x, "(a*)*b", plain)
	if r := vm.Run(x, p, long[:40], 0, million); r.Kind != api.Exceeded || r.Steps != 3_000_000 {
		t.Errorf("one that goes on for ever: %v", r)
	}
	deep := make([]api.Inst, 0, api.MaxCode)
	for i := range 2499 {
		deep = append(deep, look(i%4, 4998-i, 0, 50))
	}
	deep = append(deep, slices.Repeat([]api.Inst{done}, 2501)...)
	if r := vm.Run(x, by(deep...), long, 9, million); r.Kind == 0 {
		t.Errorf("looks within one another: %v", r)
	}
}

func TestMemory(t *testing.T) { // the rule Memory
	x := props.Load()
	p := program(t, x, "(?<n>a*)(?=b)|c", plain)
	p.Code = slices.Grow(p.Code, 5)
	room := points("aabzzz")
	l := room[:3]
	was := fmt.Sprint(p, p.Code[:cap(p.Code)], room)
	first := vm.Run(x, p, l, 0, much)
	second := vm.Run(x, p, l, 0, much)
	kept := fmt.Sprint(second)
	if kept != fmt.Sprint(first) || kept != "{2 23 [0 2 0 2]}" {
		t.Errorf("%v, then %s", first, kept)
	}
	all := first.Caps[:cap(first.Caps)]
	for i := range all {
		all[i] = 99
	}
	if fmt.Sprint(second) != kept || fmt.Sprint(p, p.Code[:cap(p.Code)], room) != was {
		t.Error("what an answer holds is shared, or what is handed in has changed")
	}
	if r := vm.Run(x, program(t, x, "aab.", plain), l, 0, much); r.Kind != api.NoMatch {
		t.Errorf("the room behind the list's end plays a part: %v", r)
	}
}
