package find_test

import (
	"fmt"
	"math"
	"slices"
	"strings"
	"testing"

	"rubricator/api"
	"rubricator/compile"
	"rubricator/find"
	"rubricator/items"
	"rubricator/lower"
	"rubricator/parse"
	"rubricator/props"
	"rubricator/vm"
)

var (
	much  = api.Budget{Steps: 1_000_000, Depth: 1_000_000}
	plain = api.Options{}
	canon = api.Options{Canon: true}
)

// program is a pattern's program.
func program(t *testing.T, x *props.Tables, pattern string, o api.Options) api.Prog {
	t.Helper()
	n, f := parse.Parse([]byte(pattern))
	if f.Code != api.OK {
		t.Fatalf("%s: %v", pattern, f)
	}
	n, e := lower.Lower(x, n, o)
	if e != api.OK {
		t.Fatalf("%s: %v", pattern, e)
	}
	p, e := compile.Prog(n, o)
	if e != api.OK {
		t.Fatalf("%s: %v", pattern, e)
	}
	return p
}

// subject is that of a text.
func subject(t *testing.T, x *props.Tables, text string, canon bool) *items.Text {
	t.Helper()
	s, e := items.New(x, []byte(text), canon)
	if e != api.OK {
		t.Fatalf("%q: %v", text, e)
	}
	return s
}

// byHand is a program of one group and one mark, which may be.
func byHand(t *testing.T, code ...api.Inst) api.Prog {
	t.Helper()
	p := api.Prog{Code: code, Groups: 1, Marks: 1, Names: make([]string, 2)}
	if !compile.Can(p) {
		t.Fatalf("%v may not be", p)
	}
	return p
}

func inst(op, x, y int) api.Inst { return api.Inst{Op: op, X: x, Y: y} }

func set(r int) api.Inst { return api.Inst{Op: api.OpSet, Set: []api.Range{{Lo: r, Hi: r}}} }

func save(x int) api.Inst { return inst(api.OpSave, x, 0) }

var done = inst(api.OpDone, 0, 0)

// told is a result's kind and places in words.
func told(r api.Result) string {
	kind := []string{"zero", "none", "match", "exceeded"}[r.Kind]
	if r.Kind == api.Match || len(r.Caps) > 0 {
		return fmt.Sprint(kind, " ", r.Caps)
	}
	return kind
}

// toldAll is the places of matches, and a kind, in words.
func toldAll(l []api.Result, kind int) string {
	var out strings.Builder
	for _, r := range l {
		if r.Kind != api.Match {
			out.WriteString("no match ")
		}
		fmt.Fprint(&out, r.Caps, " ")
	}
	return out.String() + []string{"zero", "none", "match", "exceeded"}[kind]
}

func TestFirst(t *testing.T) { // P21.1
	x := props.Load()
	for _, c := range []struct {
		pattern, text string
		o             api.Options
		from          int
		want          string
	}{
		{"a", "bba", plain, 0, "match [2 3]"}, {"a", "aba", plain, 0, "match [0 1]"}, {"a", "aba", plain, 1, "match [2 3]"}, {"a", "aba", plain, 2, "match [2 3]"}, {"a", "aba", plain, 3, "none"}, {"c", "aba", plain, 0, "none"},
		{"", "", plain, 0, "match [0 0]"}, {"", "ab", plain, 2, "match [2 2]"}, {"a", "", plain, 0, "none"}, {"\\z", "ab", plain, 0, "match [2 2]"}, {"^", "ab", plain, 1, "none"}, {"$", "ab", plain, 1, "match [2 2]"},
		{"(a|ab)(c|bcd)(d*)", "xabcd", plain, 0, "match [1 5 1 2 2 5 5 5]"}, {"a*?b", "aab", plain, 0, "match [0 3]"}, {"a*?b", "aab", plain, 1, "match [1 3]"}, {"(?>a*)ab", "aab", plain, 0, "none"}, {"(?<=a)b", "bab", plain, 0, "match [2 3]"}, {"(?<=a)b", "ab", plain, 1, "match [1 2]"}, {"(a)|b", "cb", plain, 0, "match [1 2 -1 -1]"},
		{"\\X", "xe\u0301", plain, 1, "match [1 3]"}, {"\u00e9", "xe\u0301", canon, 0, "match [1 3]"}, {"\u00e9", "xe\u0301", plain, 0, "none"}, {"\u00df", "xss", api.Options{Fold: api.FoldFull}, 0, "match [1 3]"}, {".", "\xff\xfe", plain, 1, "match [1 2]"}, {"\u0301", "\u00e9", canon, 0, "match [1 2]"}, {"\u0301", "\u00e9", canon, 2, "none"},
	} {
		p := program(t, x, c.pattern, c.o)
		r, e := find.First(x, p, subject(t, x, c.text, c.o.Canon), c.from, much)
		if got := told(r); e != api.OK || got != c.want {
			t.Errorf("%s over %q from %d: %s, %v, want %s", c.pattern, c.text, c.from, got, e, c.want)
		}
	}
}

func TestFirstsSteps(t *testing.T) { // P21.1: steps of all runs together, and the budget for each
	x := props.Load()
	p := program(t, x, "aa", plain) // 2 steps where no a is, 3 behind one a, 5 to the end
	for _, c := range []struct {
		text  string
		from  int
		b     api.Budget
		kind  int
		steps int
	}{
		{"bbabaa", 0, much, api.Match, 2 + 2 + 3 + 2 + 5}, {"bbabaa", 3, much, api.Match, 2 + 5}, {"bbabaa", 5, much, api.NoMatch, 3 + 2}, {"bbabaa", 6, much, api.NoMatch, 2}, {"", 0, much, api.NoMatch, 2},
		{"bbabaa", 0, api.Budget{Steps: 5, Depth: 2}, api.Match, 14}, {"bbabaa", 0, api.Budget{Steps: 4, Depth: 2}, api.Exceeded, 2 + 2 + 3 + 2 + 4}, {"bbabaa", 0, api.Budget{Steps: 2, Depth: 2}, api.Exceeded, 2 + 2 + 2}, {"bbabaa", 0, api.Budget{Steps: 5, Depth: 1}, api.Exceeded, 2 + 2 + 3 + 2 + 4}, {"bbabaa", 0, api.Budget{Steps: 0, Depth: 2}, api.Exceeded, 0}, {"bbabaa", 0, api.Budget{Steps: -1, Depth: -1}, api.Exceeded, 0}, {"bbabaa", 0, api.Budget{Steps: math.MinInt, Depth: math.MaxInt}, api.Exceeded, 0},
		{"bbbb", 0, api.Budget{Steps: 2, Depth: 1}, api.NoMatch, 10}, {"bbab", 0, api.Budget{Steps: 2, Depth: 1}, api.Exceeded, 6}, {"bbab", 0, api.Budget{Steps: math.MaxInt, Depth: math.MaxInt}, api.NoMatch, 2 + 2 + 3 + 2 + 2},
	} {
		r, e := find.First(x, p, subject(t, x, c.text, false), c.from, c.b)
		if e != api.OK || r.Kind != c.kind || r.Steps != c.steps || r.Kind != api.Match && len(r.Caps) > 0 {
			t.Errorf("%q from %d with %v: %v, %v, want %d, %d steps", c.text, c.from, c.b, r, e, c.kind, c.steps)
		}
	}
}

func TestAll(t *testing.T) { // P21.2
	x := props.Load()
	for _, c := range []struct {
		pattern, text string
		o             api.Options
		most          int
		want          string
	}{
		{"a*", "baa", plain, -1, "[0 0] [1 3] [3 3] none"}, {"a", "aba", plain, -1, "[0 1] [2 3] none"}, {"c", "aba", plain, -1, "none"}, {"", "", plain, -1, "[0 0] none"}, {"", "ab", plain, -1, "[0 0] [1 1] [2 2] none"}, {"aa", "aaaaa", plain, -1, "[0 2] [2 4] none"}, {"(a)|b", "ab", plain, -1, "[0 1 0 1] [1 2 -1 -1] none"}, {"(?<=a)b|a", "ab", plain, -1, "[0 1] [1 2] none"}, {"a*?", "aa", plain, -1, "[0 0] [1 1] [2 2] none"}, {"$", "ab", plain, -1, "[2 2] none"}, {"^a", "aa", plain, -1, "[0 1] none"}, {"(?=(a))", "aba", plain, -1, "[0 0 0 1] [2 2 2 3] none"}, {".", "\xff\u20ac\xe2\x82", plain, -1, "[0 1] [1 2] [2 3] none"},
		{"a*", "baa", plain, 0, "none"}, {"a*", "baa", plain, 1, "[0 0] none"}, {"a*", "baa", plain, 2, "[0 0] [1 3] none"}, {"a*", "baa", plain, 3, "[0 0] [1 3] [3 3] none"}, {"a*", "baa", plain, 4, "[0 0] [1 3] [3 3] none"}, {"a*", "baa", plain, math.MaxInt, "[0 0] [1 3] [3 3] none"}, {"a*", "baa", plain, math.MinInt, "[0 0] [1 3] [3 3] none"}, {"a*", "baa", plain, -2, "[0 0] [1 3] [3 3] none"},
		// e9 is two items of the same bytes: behind either both are
		{".", "\u00e9", canon, -1, "[0 1] none"}, {"e", "\u00e9e", canon, -1, "[0 1] [2 3] none"}, {"\u0301", "\u00e9e", canon, -1, "[1 2] none"}, {"", "\u00e9e", canon, -1, "[0 0] [2 2] [3 3] none"}, {"", "e\u0301e", canon, -1, "[0 0] [1 1] [2 2] [3 3] none"}, {"e*", "\u00e9", canon, -1, "[0 1] [2 2] none"}, {"x*", "\u1e69\u1e69", canon, -1, "[0 0] [3 3] [6 6] none"}, {"[^s]", "\u1e69s\u1e69", canon, -1, "[1 2] [5 6] none"},
		// as NFD 323, of the bytes 3 to 5, stands ahead of 301, of 1 to 3
		{"\u0323", "a\u0301\u0323\u0323", canon, -1, "[1 2] none"}, {"\u0323|\u0301", "a\u0301\u0323b\u0301", canon, -1, "[1 2] [4 5] none"}, {"\u0301", "a\u0301\u0323\u0301", canon, -1, "[2 3] [3 4] none"}, {"a\u0323|\u0301", "a\u0301\u0323\u0301", canon, -1, "[0 2] [3 4] none"}, {"(?=\u0323)|\u0301", "a\u0301\u0323b", canon, -1, "[1 1] none"}, {"(?=\u0301)", "a\u0301\u0323\u0301", canon, -1, "[2 2] [3 3] none"}, {"", "a\u0301\u0323b", canon, -1, "[0 0] [1 1] [3 3] [4 4] none"},
	} {
		p := program(t, x, c.pattern, c.o)
		l, kind, e := find.All(x, p, subject(t, x, c.text, c.o.Canon), c.most, much)
		if got := toldAll(l, kind); e != api.OK || got != c.want {
			t.Errorf("%s over %q, %d: %s, %v, want %s", c.pattern, c.text, c.most, got, e, c.want)
		}
	}
}

func TestAllsBudget(t *testing.T) { // P21.2
	x := props.Load()
	for _, c := range []struct {
		pattern, text string
		most          int
		b             api.Budget
		want          string
	}{
		{"a*", "baa", -1, api.Budget{Steps: 6, Depth: 100}, "[0 0] exceeded"}, {"a*", "baa", -1, api.Budget{Steps: 5, Depth: 100}, "exceeded"}, {"a*", "baa", 1, api.Budget{Steps: 6, Depth: 100}, "[0 0] none"}, {"a*", "baa", 0, api.Budget{}, "none"}, {"a*", "baa", -1, api.Budget{}, "exceeded"}, {"a*", "baa", 1, api.Budget{Steps: -5, Depth: -5}, "exceeded"}, {"a*", "baa", -1, api.Budget{Steps: 100, Depth: 3}, "[0 0] exceeded"},
		{"a", "bbbbabbba", -1, api.Budget{Steps: 4, Depth: 2}, "[4 5] [8 9] none"}, {"a", "bbbbabbba", 1, api.Budget{Steps: 3, Depth: 2}, "exceeded"}, {"a|b+", "aab", -1, api.Budget{Steps: 6, Depth: 3}, "[0 1] [1 2] exceeded"}, {"(a|b+)*c", "aac", -1, api.Budget{Steps: 10, Depth: 10}, "exceeded"},
	} {
		l, kind, e := find.All(x, program(t, x, c.pattern, plain), subject(t, x, c.text, false), c.most, c.b)
		if got := toldAll(l, kind); e != api.OK || got != c.want {
			t.Errorf("%s over %q, %d, %v: %s, %v, want %s", c.pattern, c.text, c.most, c.b, got, e, c.want)
		}
	}
}

func TestSpans(t *testing.T) { // P21.3
	x := props.Load()
	none := api.Span{Start: -1, End: -1}
	match := func(caps ...int) api.Result { return api.Result{Kind: api.Match, Caps: caps} }
	for _, c := range []struct {
		text  string
		canon bool
		r     api.Result
		want  []api.Span
	}{
		{"x\u00e9y", false, match(0, 3), []api.Span{{Start: 0, End: 4}}}, {"x\u00e9y", false, match(1, 2, 1, 1, -1, -1, 3, 3), []api.Span{{Start: 1, End: 3}, {Start: 1, End: 1}, none, {Start: 4, End: 4}}}, {"x\u00e9y", true, match(1, 2, 2, 3, 2, 2, 3, 4), []api.Span{{Start: 1, End: 3}, {Start: 1, End: 3}, {Start: 1, End: 1}, {Start: 3, End: 4}}}, {"a\u0301\u0323", true, match(1, 2, 2, 3, 0, 2), []api.Span{{Start: 3, End: 5}, {Start: 1, End: 3}, {Start: 0, End: 5}}},
		{"ab", false, match(2, 1, -1, 1, 0, -1, 0, 3, math.MinInt, math.MaxInt, math.MaxInt, math.MaxInt), []api.Span{none, none, none, none, none, none}}, {"", false, match(0, 0), []api.Span{{}}},
		{"ab", false, match(), nil}, {"ab", false, match(0), nil}, {"ab", false, match(0, 1, 1), []api.Span{{Start: 0, End: 1}}},
		{"ab", false, api.Result{Kind: api.NoMatch, Caps: []int{0, 1}}, nil}, {"ab", false, api.Result{Kind: api.Exceeded, Caps: []int{0, 1}}, nil}, {"ab", false, api.Result{Caps: []int{0, 1}}, nil}, {"ab", false, api.Result{Kind: math.MaxInt, Caps: []int{0, 1}}, nil}, {"ab", false, api.Result{Kind: -api.Match, Caps: []int{0, 1}}, nil},
	} {
		if got := find.Spans(subject(t, x, c.text, c.canon), c.r); !slices.Equal(got, c.want) {
			t.Errorf("Spans of %v over %q, %v: %v, want %v", c.r, c.text, c.canon, got, c.want)
		}
	}
	for name, s := range map[string]*items.Text{"nil": nil, "plain": {}} {
		if got := find.Spans(s, match(0, 0, -1, -1)); len(got) != 0 {
			t.Errorf("%s subject: %v", name, got)
		}
	}
}

func TestErrors(t *testing.T) { // P21.1, P21.2: which, and which first
	x := props.Load()
	good, bad := program(t, x, "a", plain), api.Prog{}
	s := subject(t, x, "ab", false)
	for _, c := range []struct {
		what string
		t    *props.Tables
		p    api.Prog
		s    *items.Text
		from int
		want api.Errno
	}{
		{"nothing wrong", x, good, s, 2, api.OK}, {"no items", x, good, subject(t, x, "", true), 0, api.OK},
		{"nil tables", nil, good, s, 0, api.ErrNil}, {"tables that no call made", &props.Tables{}, good, s, 0, api.ErrNil}, {"a nil subject", x, good, nil, 0, api.ErrNil}, {"a subject that no call made", x, good, &items.Text{}, 0, api.ErrNil}, {"nil tables, and all else", nil, bad, nil, -1, api.ErrNil}, {"a nil subject, and all else", x, bad, nil, 9, api.ErrNil}, {"tables, and all else", &props.Tables{}, bad, s, 9, api.ErrNil},
		{"a program that may not be", x, bad, s, 0, api.ErrArg}, {"one without an end", x, api.Prog{Code: []api.Inst{set('a')}, Names: make([]string, 1)}, s, 0, api.ErrArg}, {"too far ahead", x, good, s, -1, api.ErrArg}, {"too far behind", x, good, s, 3, api.ErrArg}, {"in bytes, not in items", x, good, subject(t, x, "\u20ac", false), 2, api.ErrArg}, {"the least number", x, good, s, math.MinInt, api.ErrArg}, {"the greatest", x, good, s, math.MaxInt, api.ErrArg},
	} {
		r, e := find.First(c.t, c.p, c.s, c.from, much)
		if e != c.want || e != api.OK && (r.Kind != 0 || r.Steps != 0 || len(r.Caps) > 0) {
			t.Errorf("First, %s: %v, %v, want %v", c.what, r, e, c.want)
		}
		want := c.want
		if want == api.ErrArg && compile.Can(c.p) {
			want = api.OK // All has no place from which on
		}
		for _, most := range []int{-1, 0, 1} {
			l, kind, e := find.All(c.t, c.p, c.s, most, much)
			if e != want || e != api.OK && (kind != 0 || len(l) > 0) || e == api.OK && kind != api.NoMatch {
				t.Errorf("All, %s, %d: %v, %d, %v, want %v", c.what, most, l, kind, e, want)
			}
		}
	}
}

func TestProgramsByHand(t *testing.T) { // P21.2, Ends: programs whose places are not where they ran
	x := props.Load()
	behind := api.Inst{Op: api.OpLook, X: api.Behind, Y: 4, Min: 1, Max: 1}
	some := inst(api.OpCluster, 0, 0)
	for _, c := range []struct {
		what string
		p    api.Prog
		text string
		most int
		want string
	}{
		{"no places", byHand(t, done), "ab", -1, "[-1 -1 -1 -1] [-1 -1 -1 -1] [-1 -1 -1 -1] none"}, {"no places, twice", byHand(t, done), "ab", 2, "[-1 -1 -1 -1] [-1 -1 -1 -1] none"},
		{"no end", byHand(t, save(0), done), "a", -1, "[0 -1 -1 -1] [1 -1 -1 -1] none"}, {"no beginning", byHand(t, set('a'), save(1), done), "aaa", -1, "[-1 1 -1 -1] [-1 3 -1 -1] none"},
		{"falling", byHand(t, save(1), set('a'), save(0), done), "aaa", -1, "[1 0 -1 -1] [2 1 -1 -1] [3 2 -1 -1] none"},
		{"a beginning within", byHand(t, set('a'), save(0), set('b'), save(1), done), "abab", -1, "[1 2 -1 -1] [3 4 -1 -1] none"},
		{"an end within", byHand(t, save(0), set('a'), save(1), set('b'), done), "abab", -1, "[0 1 -1 -1] [2 3 -1 -1] none"},
		{"all of it ahead", byHand(t, behind, save(0), some, done, save(1), done), "abc", -1, "[0 1 -1 -1] [0 1 -1 -1] [1 2 -1 -1] [2 3 -1 -1] none"},
		{"an end ahead of its beginning, far off", byHand(t, inst(api.OpAssert, api.TextEnd, 0), save(0), api.Inst{Op: api.OpLook, X: api.Behind, Y: 7, Min: 2, Max: 2}, save(1), some, some, done, done), "abc", -1, "[3 1 -1 -1] [3 1 -1 -1] [3 1 -1 -1] none"},
	} {
		l, kind, e := find.All(x, c.p, subject(t, x, c.text, false), c.most, much)
		if got := toldAll(l, kind); e != api.OK || got != c.want {
			t.Errorf("%s: %s, %v, want %s", c.what, got, e, c.want)
		}
	}
	endless := byHand(t, inst(api.OpJump, 0, 0), done)
	if r, e := find.First(x, endless, subject(t, x, "a", false), 0, api.Budget{Steps: 1000}); e != api.OK || r.Kind != api.Exceeded || r.Steps != 1000 || len(r.Caps) > 0 {
		t.Errorf("for ever: %v, %v", r, e)
	}
}

func TestMemory(t *testing.T) { // Memory
	x := props.Load()
	p := program(t, x, "(a)(b)?", plain)
	before := fmt.Sprint(p)
	s := subject(t, x, "abaab", false)
	want, _, _ := find.All(x, p, s, -1, much)
	wanted := toldAll(want, api.NoMatch)
	l, kind, _ := find.All(x, p, s, -1, much)
	r, _ := find.First(x, p, s, 0, much)
	spans := find.Spans(s, l[1])
	for i := range l {
		clear(l[i].Caps[:cap(l[i].Caps)])
		if i+1 < len(l) && toldAll(l[i+1:], kind) != toldAll(want[i+1:], kind) {
			t.Fatalf("two matches of one answer share memory: %v", l)
		}
	}
	clear(l[:cap(l)])
	if told(r) != told(want[0]) || toldAll(want, api.NoMatch) != wanted || !slices.Equal(spans, find.Spans(s, want[1])) {
		t.Error("two answers share memory")
	}
	caps := slices.Clone(want[0].Caps)
	clear(spans[:cap(spans)])
	find.Spans(s, want[0])
	if !slices.Equal(want[0].Caps, caps) || fmt.Sprint(p) != before || string(s.Bytes()) != "abaab" {
		t.Error("what is handed in has changed")
	}
}

func TestLongOnes(t *testing.T) { // Ends
	x := props.Load()
	const n = 50_000
	for _, c := range []struct {
		pattern, text string
		o             api.Options
		want          int
	}{
		{"", strings.Repeat("\u00e9", n), canon, n + 1}, {"a", strings.Repeat("ab", n), plain, n}, {"a*", strings.Repeat("a", n), plain, 2}, {"b", strings.Repeat("a", n), plain, 0},
	} {
		l, kind, e := find.All(x, program(t, x, c.pattern, c.o), subject(t, x, c.text, c.o.Canon), -1, much)
		if e != api.OK || kind != api.NoMatch || len(l) != c.want {
			t.Errorf("%q: %d matches, %d, %v, want %d", c.pattern, len(l), kind, e, c.want)
		}
	}
}

// slowFirst is the chapter's words, by vm's runs alone.
func slowFirst(x *props.Tables, p api.Prog, runes []int, from int, b api.Budget) api.Result {
	steps := 0
	for at := range len(runes) + 1 {
		if at < from {
			continue
		}
		r := vm.Run(x, p, runes, at, b)
		steps += r.Steps
		if r.Kind == api.Match || r.Kind == api.Exceeded {
			return api.Result{Kind: r.Kind, Steps: steps, Caps: r.Caps}
		}
	}
	return api.Result{Kind: api.NoMatch, Steps: steps}
}
