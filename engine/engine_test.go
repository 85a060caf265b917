package engine_test

import (
	"fmt"
	"math"
	"slices"
	"strings"
	"testing"

	"rubricator/api"
	"rubricator/compile"
	"rubricator/engine"
	"rubricator/parse"
	"rubricator/props"
)

var (
	much  = api.Budget{Steps: 1_000_000, Depth: 1_000_000}
	plain = api.Options{}
	canon = api.Options{Canon: true}
	full  = api.Options{Fold: api.FoldFull}
)

// made is a pattern's engine.
func made(t *testing.T, x *props.Tables, pattern string, o api.Options) *engine.Engine {
	t.Helper()
	e, f := engine.Compile(x, []byte(pattern), o)
	if e == nil || f != (api.Fault{}) {
		t.Fatalf("%s with %v: %v, %v", pattern, o, e, f)
	}
	return e
}

// kindOf is a result's kind in words.
func kindOf(kind int) string { return []string{"zero", "none", "match", "exceeded"}[kind] }

// told is matches, and a kind, in words.
func told(kind int, l ...api.Found) string {
	var out strings.Builder
	out.WriteString(kindOf(kind))
	for _, f := range l {
		out.WriteString(" ")
		for i, s := range f.Spans {
			if i > 0 {
				out.WriteString(",")
			}
			fmt.Fprintf(&out, "%d-%d", s.Start, s.End)
		}
	}
	return out.String()
}

// toldParts is parts, and a kind, in words.
func toldParts(kind int, l [][]byte) string { return fmt.Sprintf("%s %q", kindOf(kind), l) }

func TestFind(t *testing.T) { // P23.2, P1
	x := props.Load()
	for _, c := range []struct {
		pattern, text string
		o             api.Options
		want          string
	}{
		{"(a|ab)(c|bcd)(d*)", "abcd", plain, "match 0-4,0-1,1-4,4-4"}, {"a*?b", "aab", plain, "match 0-3"}, {"(?>a*)ab", "aab", plain, "none "}, {"(?<=a)b", "ab", plain, "match 1-2"}, {"\\X", "e\u0301", plain, "match 0-3"},
		{"\u00e9", "e\u0301", canon, "match 0-3"}, {"\u00e9", "e\u0301", plain, "none "}, {"e\u0301", "x\u00e9", canon, "match 1-3"}, {"\u0301", "x\u00e9", canon, "match 1-3"},
		{"\u00df", "xsS", full, "match 1-3"}, {"\u00df", "xsS", api.Options{Fold: api.FoldSimple}, "none "}, {"ss", "\u00df", full, "none "},
		{"a.b", "a\nb", plain, "none "}, {"a.b", "a\nb", api.Options{Dot: true}, "match 0-3"}, {"^b", "a\nb", plain, "none "}, {"^b", "a\nb", api.Options{Multi: true}, "match 2-3"},
		{"", "", plain, "match 0-0"}, {"a", "", plain, "none "}, {"", "abc", plain, "match 0-0"}, {"\\z", "\u00e9", plain, "match 2-2"}, {"b", "aab", plain, "match 2-3"}, {"(a)|(b)", "b", plain, "match 0-1,-1--1,0-1"}, {".", "\xe2\x82A", plain, "match 0-2"}, {"\\x{fffd}", "A\xff", plain, "match 1-2"},
	} {
		e := made(t, x, c.pattern, c.o)
		f, kind, err := e.Find([]byte(c.text), much)
		if got := told(kind, f); err != api.OK || got != c.want {
			t.Errorf("%s over %q with %v: %s, %v, want %s", c.pattern, c.text, c.o, got, err, c.want)
		}
	}
}

func TestFindsBudget(t *testing.T) { // P23.2, P4
	x := props.Load()
	e := made(t, x, "(a)b", plain) // 7 steps, of which 4 lay something onto the stack
	for _, c := range []struct {
		text string
		b    api.Budget
		want string
	}{
		{"ab", api.Budget{Steps: 7, Depth: 4}, "match 0-2,0-1"}, {"ab", api.Budget{Steps: 6, Depth: 4}, "exceeded "}, {"ab", api.Budget{Steps: 7, Depth: 3}, "exceeded "}, {"ab", api.Budget{}, "exceeded "}, {"ab", api.Budget{Steps: -1, Depth: math.MaxInt}, "exceeded "}, {"ab", api.Budget{Steps: math.MaxInt, Depth: math.MinInt}, "exceeded "},
		{"ccab", api.Budget{Steps: 7, Depth: 4}, "match 2-4,2-3"}, {"cccc", api.Budget{Steps: 3, Depth: 2}, "none "}, {"ccac", api.Budget{Steps: 3, Depth: 2}, "exceeded "},
	} {
		f, kind, err := e.Find([]byte(c.text), c.b)
		if got := told(kind, f); err != api.OK || got != c.want {
			t.Errorf("%q with %v: %s, %v, want %s", c.text, c.b, got, err, c.want)
		}
	}
	long := strings.Repeat("a", 40)
	if f, kind, err := made(t, x, "(a*)*(a*)*b", plain).Find([]byte(long), much); err != api.OK || told(kind, f) != "exceeded " {
		t.Errorf("one that goes on for ever: %s, %v", told(kind, f), err)
	}
	e = made(t, x, "a?b", plain)
	if _, kind, _ := e.Find([]byte("a"), compile.Need(e.Prog(), 1)); kind != api.NoMatch {
		t.Errorf("with what it needs: %d", kind)
	}
}

func TestFindAll(t *testing.T) { // P23.2
	x := props.Load()
	for _, c := range []struct {
		pattern, text string
		o             api.Options
		most          int
		b             api.Budget
		want          string
	}{
		{"a*", "baa", plain, -1, much, "none 0-0 1-3 3-3"}, {"a*", "baa", plain, 3, much, "none 0-0 1-3 3-3"}, {"a*", "baa", plain, 2, much, "none 0-0 1-3"}, {"a*", "baa", plain, 1, much, "none 0-0"}, {"a*", "baa", plain, 0, much, "none"}, {"a*", "baa", plain, math.MinInt, much, "none 0-0 1-3 3-3"}, {"a*", "baa", plain, math.MaxInt, much, "none 0-0 1-3 3-3"},
		{"(.)(b)?", "ab\u00e9", plain, -1, much, "none 0-2,0-1,1-2 2-4,2-4,-1--1"}, {"c", "ab", plain, -1, much, "none"}, {"a", "", plain, -1, much, "none"}, {"", "", plain, -1, much, "none 0-0"},
		{".", "x\u00e9y", canon, -1, much, "none 0-1 1-3 3-4"}, {"\u0301", "\u00e9", canon, -1, much, "none 0-2"}, {"K", "ks\u212a", full, -1, much, "none 0-1 2-5"},
		{"ab", "abab", plain, -1, api.Budget{Steps: 5, Depth: 2}, "none 0-2 2-4"}, {"a|bc", "aabca", plain, -1, api.Budget{Steps: 6, Depth: 3}, "exceeded 0-1 1-2"}, {"a|bc", "bcaa", plain, -1, api.Budget{Steps: 6, Depth: 3}, "exceeded"}, {"a|bc", "aabca", plain, 2, api.Budget{Steps: 6, Depth: 3}, "none 0-1 1-2"}, {"a", "a", plain, 0, api.Budget{}, "none"}, {"a", "a", plain, 1, api.Budget{}, "exceeded"},
	} {
		l, kind, err := made(t, x, c.pattern, c.o).FindAll([]byte(c.text), c.most, c.b)
		if got := told(kind, l...); err != api.OK || got != c.want {
			t.Errorf("%s over %q with %v, %d, %v: %s, %v, want %s", c.pattern, c.text, c.o, c.most, c.b, got, err, c.want)
		}
	}
}

func TestReplace(t *testing.T) { // P23.3, P5
	x := props.Load()
	short := api.Budget{Steps: 6, Depth: 3}
	for _, c := range []struct {
		pattern, text, with string
		most                int
		b                   api.Budget
		want                string
	}{
		{"(\\d)(\\d)", "a12b", "$2$1", -1, much, "none a21b"}, {"(\\d)(?<y>\\d)", "a12b34", "${y}$1", -1, much, "none a21b43"}, {"(\\d)(?<y>\\d)", "a12b34", "${y}$1", 1, much, "none a21b34"}, {"(\\d)(?<y>\\d)", "a12b34", "${y}$1", 0, much, "none a12b34"}, {"(\\d)(?<y>\\d)", "a12b34", "${2}-$0$$", math.MinInt, much, "none a2-12$b4-34$"},
		{"a*", "baac", "x", -1, much, "none xbxxcx"}, {"a*", "baac", "x", 2, much, "none xbxc"}, {"a*", "baac", "", -1, much, "none bc"}, {"", "", "x", -1, much, "none x"}, {"a", "", "x", -1, much, "none "}, {"c", "ab", "x", -1, much, "none ab"}, {"(a)|b", "ab", "[$1]", -1, much, "none [a][]"}, {"\xc3\xa9", "\u00e9\xff", "$0\xff$0", -1, much, "none \u00e9\xff\u00e9\xff"},
		{"a|bc", "aabca", "x", -1, short, "exceeded "}, {"a|bc", "aabca", "x", 2, short, "none xxbca"}, {"a|bc", "aa", "x", -1, short, "none xx"}, {"a", "a", "x", 0, api.Budget{}, "none a"},
	} {
		b, kind, f := made(t, x, c.pattern, plain).Replace([]byte(c.text), []byte(c.with), c.most, c.b)
		if got := kindOf(kind) + " " + string(b); f != (api.Fault{}) || got != c.want {
			t.Errorf("%s over %q by %s, %d, %v: %q, %v, want %q", c.pattern, c.text, c.with, c.most, c.b, got, f, c.want)
		}
	}
	b, kind, f := made(t, x, "e(\u0301)", canon).Replace([]byte("x\u00e9y"), []byte("<$1>"), -1, much)
	if f != (api.Fault{}) || kind != api.NoMatch || string(b) != "x<\u00e9>y" {
		t.Errorf("with Canon: %q, %d, %v", b, kind, f)
	}
}

func TestReplacesFaults(t *testing.T) { // P23.3: a template's fault comes ahead of what is found
	x := props.Load()
	e := made(t, x, "(a)(?<n>b)", plain)
	for _, c := range []struct {
		with string
		want api.Fault
	}{
		{"x$3", api.Fault{Code: api.ErrGroup, At: 1}}, {"${m}", api.Fault{Code: api.ErrGroup}}, {"xy$", api.Fault{Code: api.ErrTemplate, At: 2}}, {"$2${}", api.Fault{Code: api.ErrTemplate, At: 2}}, {"$99$", api.Fault{Code: api.ErrGroup}},
	} {
		for _, b := range []api.Budget{much, {}} {
			for _, text := range []string{"ab", "", "x"} {
				if out, kind, f := e.Replace([]byte(text), []byte(c.with), -1, b); f != c.want || kind != 0 || len(out) > 0 {
					t.Errorf("%s over %q: %q, %d, %v, want %v", c.with, text, out, kind, f, c.want)
				}
			}
		}
	}
}

func TestSplit(t *testing.T) { // P23.3, P5
	x := props.Load()
	short := api.Budget{Steps: 6, Depth: 3}
	for _, c := range []struct {
		pattern, text string
		most          int
		b             api.Budget
		want          string
	}{
		{",", "a,b,c", -1, much, `none ["a" "b" "c"]`}, {",", "a,b,c", 1, much, `none ["a" "b,c"]`}, {",", "a,b,c", 0, much, `none ["a,b,c"]`}, {",", ",", -1, much, `none ["" ""]`}, {",", "", -1, much, `none [""]`}, {",", "abc", math.MaxInt, much, `none ["abc"]`}, {",", "a,", math.MinInt, much, `none ["a" ""]`},
		{",*", "a,,b", -1, much, `none ["a" "b"]`}, {"", "ab", -1, much, `none ["ab"]`}, {",*", "a,,b", 1, much, `none ["a,,b"]`}, {",*", "a,,b", 2, much, `none ["a" "b"]`}, {"(,)(x)?", "a,b", -1, much, `none ["a" "b"]`},
		{"a|bc", "aabca", -1, short, `exceeded []`}, {"a|bc", "aabca", 2, short, `none ["" "" "bca"]`}, {"a", "a", 0, api.Budget{}, `none ["a"]`},
	} {
		l, kind, err := made(t, x, c.pattern, plain).Split([]byte(c.text), c.most, c.b)
		if got := toldParts(kind, l); err != api.OK || got != c.want {
			t.Errorf("%s over %q, %d, %v: %s, %v, want %s", c.pattern, c.text, c.most, c.b, got, err, c.want)
		}
	}
	if l, kind, err := made(t, x, "\u0301", canon).Split([]byte("x\u00e9y"), -1, much); err != api.OK || toldParts(kind, l) != `none ["x" "y"]` {
		t.Errorf("with Canon: %s, %v", toldParts(kind, l), err)
	}
}

func TestFaults(t *testing.T) { // P23.1: which, and which first
	x := props.Load()
	folds := []int{math.MinInt, -1, 3, math.MaxInt}
	for _, p := range []string{"a", "(a", ""} {
		for _, tables := range []*props.Tables{nil, {}} {
			for _, fold := range append(folds, 0) {
				if e, f := engine.Compile(tables, []byte(p), api.Options{Fold: fold}); e != nil || f != (api.Fault{Code: api.ErrNil}) {
					t.Errorf("%q without tables: %v, %v", p, e, f)
				}
			}
		}
		for _, fold := range folds {
			if e, f := engine.Compile(x, []byte(p), api.Options{Fold: fold}); e != nil || f != (api.Fault{Code: api.ErrArg}) {
				t.Errorf("%q with %d: %v, %v", p, fold, e, f)
			}
		}
	}
	long := strings.Repeat("a{100}", 50)
	for _, c := range []struct {
		pattern string
		code    api.Errno
		at      int
	}{
		{"(a", api.ErrEnd, 2}, {"a)", api.ErrMark, 1}, {"ab**", api.ErrRepeat, 3}, {"[b-a]", api.ErrRange, 3}, {"a\xff", api.ErrBytes, 1}, {"\\1", api.ErrGroup, 0}, {"x\\p{nope}", api.ErrName, 1}, {"x\\p{sc=nope}", api.ErrValue, 1}, {strings.Repeat("a", api.MaxPattern+1), api.ErrFull, api.MaxPattern}, {strings.Repeat("(?:", api.MaxDepth+1), api.ErrDeep, 3 * api.MaxDepth},
		{"(?<=a*)b", api.ErrWidth, 8}, {"\u00e9(?<!\\X)", api.ErrWidth, 9}, {"(?<=a{51})", api.ErrWidth, 10}, {"(?<=a{50})" + long, api.ErrSize, 310}, {long, api.ErrSize, 300}, {"(?<=a*)" + long, api.ErrWidth, 307}, {"(?<=a*)" + long + ")", api.ErrMark, 307},
	} {
		e, f := engine.Compile(x, []byte(c.pattern), plain)
		_, read := parse.Parse([]byte(c.pattern))
		if want := (api.Fault{Code: c.code, At: c.at}); e != nil || f != want || read.Code != api.OK && f != read {
			t.Errorf("%.20s: %v, %v, want %v", c.pattern, e, f, want)
		}
	}
	made(t, x, strings.Repeat("a", api.MaxPattern), plain)
	made(t, x, "(?<=a{50})", plain)
}

func TestProgram(t *testing.T) { // P23.4
	x := props.Load()
	for _, c := range []struct {
		pattern string
		groups  int
		names   string
	}{
		{"", 0, `[""]`}, {"a", 0, `[""]`}, {"(?:a)", 0, `[""]`}, {"(a)", 1, `["" ""]`}, {"(?<n>a(b)(?<m_1>c))", 3, `["" "n" "" "m_1"]`}, {strings.Repeat("()", api.MaxGroups), api.MaxGroups, fmt.Sprintf("%q", make([]string, api.MaxGroups+1))},
	} {
		e := made(t, x, c.pattern, plain)
		if names := fmt.Sprintf("%q", e.Names()); e.Groups() != c.groups || names != c.names {
			t.Errorf("%s: %d, %s, want %d, %s", c.pattern, e.Groups(), names, c.groups, c.names)
		}
	}
	if got := fmt.Sprint(made(t, x, "(?<n>a)", api.Options{Fold: api.FoldSimple, Multi: true}).Prog()); got != "{[{4 0 0 0 0 []} {4 2 0 0 0 []} {1 0 0 0 0 [{65 65} {97 97}]} {4 3 0 0 0 []} {4 1 0 0 0 []} {12 0 0 0 0 []}] 1 0 [ n] {false false true 1}}" {
		t.Errorf("a program: %s", got)
	}
	if got := fmt.Sprint(made(t, x, "a|b*", full).Tree()); got != "{7 0 0 0 false  [] [{6 0 0 0 false  [] [{1 0 97 0 false  [] []}]} {6 0 0 0 false  [] [{8 0 0 -1 false  [] [{1 0 98 0 false  [] []}]}]}]}" {
		t.Errorf("a tree: %s", got)
	}
}

func TestObjects(t *testing.T) { // Objects
	for _, e := range []*engine.Engine{nil, {}, new(engine.Engine)} {
		for _, most := range []int{-1, 0, 1} {
			for _, with := range []string{"x", "$"} {
				if b, kind, f := e.Replace([]byte("a"), []byte(with), most, much); len(b) > 0 || kind != 0 || f != (api.Fault{Code: api.ErrNil}) {
					t.Errorf("Replace: %q, %d, %v", b, kind, f)
				}
			}
			if l, kind, err := e.FindAll([]byte("a"), most, much); len(l) > 0 || kind != 0 || err != api.ErrNil {
				t.Errorf("FindAll: %v, %d, %v", l, kind, err)
			}
			if l, kind, err := e.Split([]byte("a"), most, much); len(l) > 0 || kind != 0 || err != api.ErrNil {
				t.Errorf("Split: %v, %d, %v", l, kind, err)
			}
		}
		if f, kind, err := e.Find(nil, much); len(f.Spans) > 0 || kind != 0 || err != api.ErrNil {
			t.Errorf("Find: %v, %d, %v", f, kind, err)
		}
		if p := e.Prog(); e.Groups() != 0 || len(e.Names()) > 0 || len(p.Code)+p.Groups+p.Marks+len(p.Names) > 0 || p.Options != plain {
			t.Errorf("a program: %d, %v, %v", e.Groups(), e.Names(), p)
		}
		if n := e.Tree(); fmt.Sprint(n) != fmt.Sprint(api.Node{}) {
			t.Errorf("a tree: %v", n)
		}
	}
}

func TestNilAndEmpty(t *testing.T) { // nil and empty lists mean the same
	x := props.Load()
	for _, none := range [][]byte{nil, {}} {
		e, f := engine.Compile(x, none, plain)
		if f != (api.Fault{}) {
			t.Fatal(f)
		}
		one, kind, err := e.Find(none, much)
		if told(kind, one) != "match 0-0" || err != api.OK {
			t.Errorf("Find: %s, %v", told(kind, one), err)
		}
		b, kind, f := e.Replace(none, none, -1, much)
		if len(b) > 0 || kind != api.NoMatch || f != (api.Fault{}) {
			t.Errorf("Replace: %q, %d, %v", b, kind, f)
		}
		l, kind, err := e.Split(none, -1, much)
		if toldParts(kind, l) != `none [""]` || err != api.OK {
			t.Errorf("Split: %s, %v", toldParts(kind, l), err)
		}
	}
}

// spoil overwrites a tree, its spare room too.
func spoil(n *api.Node) {
	for i := range n.Kids {
		spoil(&n.Kids[i])
	}
	clear(n.Kids[:cap(n.Kids)])
	clear(n.Set[:cap(n.Set)])
}

func spoilProg(p *api.Prog) {
	for _, i := range p.Code {
		clear(i.Set[:cap(i.Set)])
	}
	clear(p.Code[:cap(p.Code)])
	clear(p.Names[:cap(p.Names)])
}

func TestMemory(t *testing.T) { // Memory: what an engine tells is new each time, and nothing that is handed in is kept
	x := props.Load()
	pattern := []byte("(?<n>[ab])|c\\1{2}(?=[^\\d--5])")
	e, _ := engine.Compile(x, pattern, full)
	clear(pattern)
	tree, prog := fmt.Sprint(e.Tree()), fmt.Sprint(e.Prog())
	for range 3 {
		n, p, names := e.Tree(), e.Prog(), e.Names()
		other, otherProg := e.Tree(), e.Prog()
		spoil(&n)
		spoilProg(&p)
		clear(names[:cap(names)])
		if fmt.Sprint(other) != tree || fmt.Sprint(otherProg) != prog || fmt.Sprint(e.Tree()) != tree || fmt.Sprint(e.Prog()) != prog || fmt.Sprintf("%q", e.Names()) != `["" "n"]` {
			t.Fatal("answers share memory with the engine, or with one another")
		}
	}
	p := e.Prog()
	for i := range p.Code {
		rest := fmt.Sprint(p.Code[i+1:])
		clear(p.Code[i].Set[:cap(p.Code[i].Set)])
		if fmt.Sprint(p.Code[i+1:]) != rest {
			t.Fatal("two sets of one program share memory")
		}
	}
}

func TestSubjectsMemory(t *testing.T) { // Memory: of subjects, templates and matches
	x := props.Load()
	e := made(t, x, "(a)(b)?", plain)
	room := []byte("abxa\u00e9|behind")
	b, with := room[:6], []byte("<$1>ROOM")[:4]
	before := string(room)
	one, _, _ := e.Find(b, much)
	all, _, _ := e.FindAll(b, -1, much)
	parts, _, _ := e.Split(b, -1, much)
	out, _, _ := e.Replace(b, with, -1, much)
	if string(room) != before || string(with[:8]) != "<$1>ROOM" {
		t.Error("what is handed in has changed")
	}
	clear(room)
	clear(with[:8])
	for i := range all {
		rest := told(0, all[i+1:]...)
		clear(all[i].Spans[:cap(all[i].Spans)])
		if told(0, all[i+1:]...) != rest {
			t.Error("two matches of one answer share memory")
		}
	}
	if told(0, one) != "zero 0-2,0-1,1-2" || toldParts(0, parts) != `zero ["" "x" "é"]` || string(out) != "<a>x<a>\u00e9" {
		t.Errorf("answers share memory with arguments or one another: %v %q %q", one, parts, out)
	}
	for i := range parts {
		clear(parts[i][:cap(parts[i])])
		for k, want := range []string{"", "x", "\u00e9"} {
			if k > i && string(parts[k]) != want {
				t.Error("two parts of one answer share memory")
			}
		}
	}
	whole, _, _ := made(t, x, "z", plain).Split(b, -1, much)
	clear(whole[0])
	same, _, _ := made(t, x, "z", plain).Replace(b, nil, -1, much)
	b[0] = 'q'
	if b[1] != 0 || same[0] != 0 {
		t.Error("what has no match is handed out")
	}
}

func TestCallsInTurn(t *testing.T) { // From arguments alone: no call can be told from the ones ahead of it
	x := props.Load()
	e := made(t, x, "(,)|;*", plain)
	texts := []string{"a,b;;c", "", ",,,;,,,", strings.Repeat("x,", 3000), "q;", "a"}
	var want []string
	for _, text := range texts {
		want = append(want, answers(made(t, x, "(,)|;*", plain), text))
	}
	for range 3 {
		for i, text := range slices.Concat(texts, texts) {
			if got := answers(e, text); got != want[i%len(texts)] {
				t.Fatalf("%.10q: %.200s, want %.200s", text, got, want[i%len(texts)])
			}
		}
	}
}

// answers is all that an engine tells of a text.
func answers(e *engine.Engine, text string) string {
	b := []byte(text)
	one, kind, err := e.Find(b, much)
	out := fmt.Sprint(told(kind, one), err)
	all, kind, err := e.FindAll(b, -1, much)
	out += fmt.Sprint(told(kind, all...), err)
	parts, kind, err := e.Split(b, -1, much)
	out += fmt.Sprint(toldParts(kind, parts), err)
	with, kind, f := e.Replace(b, []byte("$1-"), 2, much)
	return out + fmt.Sprint(string(with), kind, f, e.Tree(), e.Prog(), e.Names(), e.Groups())
}

func TestManyAtOnce(t *testing.T) { // From arguments alone: goroutines that share an engine don't meddle with one another
	x := props.Load()
	e := made(t, x, "(a(b)?)|[c-e]+", plain)
	texts := []string{"abxcde", "ab", "", strings.Repeat("abc-", 50), "xyz"}
	var want []string
	for _, text := range texts {
		want = append(want, answers(e, text))
	}
	wrong := make(chan string, 100)
	done := make(chan bool)
	const workers = 8
	for range workers {
		go func() {
			for i := range 20 * len(texts) {
				if got := answers(e, texts[i%len(texts)]); got != want[i%len(texts)] {
					wrong <- got
					break
				}
			}
			done <- true
		}()
	}
	for range workers {
		<-done
	}
	close(wrong)
	for w := range wrong {
		t.Errorf("at once with others: %.200s", w)
	}
}
