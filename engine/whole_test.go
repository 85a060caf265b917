package engine_test

import (
	"bytes"
	"fmt"
	"regexp"
	"slices"
	"testing"

	"rubricator/api"
	"rubricator/audit"
	"rubricator/compile"
	"rubricator/edit"
	"rubricator/engine"
	"rubricator/find"
	"rubricator/items"
	"rubricator/lower"
	"rubricator/norm"
	"rubricator/parse"
	"rubricator/props"
	"rubricator/tree"
)

// texts tells all texts of up to so many parts.
func texts(parts []string, most int, tell func(text string)) {
	var grow func(text string, n int)
	grow = func(text string, n int) {
		tell(text)
		if n == most {
			return
		}
		for _, p := range parts {
			grow(text+p, n+1)
		}
	}
	grow("", 0)
}

func parts() []string { return []string{"e", "S", "\u0301", "\u00e9", "\u1e69", "\n", "\xe1\xb9"} }

func patterns() []string {
	return []string{"", "e", "(e*?)s|.", "\u0301*", "(?<n>E)|\u0301", "(?<=e)", "(?=\u0301)", "\u00e9", "[^e\u00e9]+", "(\\X)", "\\b{g}|\\b{w}", "(.)(?:\\1)+", "^.|$", "(?<!e)\u0301*", "(?>\u0307*)\u0323", "\u1e69?+", "(?:(s)|(e))*"}
}

func options() []api.Options {
	return []api.Options{plain, canon, {Fold: api.FoldSimple, Dot: true}, {Fold: api.FoldFull, Canon: true, Multi: true}}
}

// eachEngine tells engines of many patterns and options.
func eachEngine(t *testing.T, x *props.Tables, tell func(name string, pattern string, o api.Options, e *engine.Engine)) {
	for _, o := range options() {
		for _, pattern := range patterns() {
			tell(fmt.Sprint(pattern, " with ", o), pattern, o, made(t, x, pattern, o))
		}
	}
}

// layered is a pattern's tree and program as the layers tell them.
func layered(t *testing.T, x *props.Tables, pattern string, o api.Options) (api.Node, api.Prog) {
	t.Helper()
	n, f := parse.Parse([]byte(pattern))
	low, e := lower.Lower(x, n, o)
	p, err := compile.Prog(low, o)
	if f.Code != api.OK || e != api.OK || err != api.OK {
		t.Fatalf("%s: %v, %v, %v", pattern, f, e, err)
	}
	return n, p
}

func sameFound(a, b api.Found) bool { return slices.Equal(a.Spans, b.Spans) }

func TestAsTheLayers(t *testing.T) { // P23.1 to P23.4
	x := props.Load()
	budgets := []api.Budget{much, {Steps: 9, Depth: 100}, {Steps: 100, Depth: 3}}
	eachEngine(t, x, func(name, pattern string, o api.Options, e *engine.Engine) {
		n, p := layered(t, x, pattern, o)
		if fmt.Sprint(e.Tree(), e.Prog(), e.Names(), e.Groups()) != fmt.Sprint(n, p, p.Names, p.Groups) {
			t.Fatalf("%s: %v, %v", name, e.Tree(), e.Prog())
		}
		with, _ := edit.Template([]byte("<$0>"), p.Groups, p.Names)
		texts(parts(), 3, func(text string) {
			b := []byte(text)
			s, _ := items.New(x, b, o.Canon)
			for i, g := range budgets {
				most := []int{-1, 2, 3}[i]
				r, _ := find.First(x, p, s, 0, g)
				one, kind, err := e.Find(b, g)
				if kind != r.Kind || err != api.OK || !slices.Equal(one.Spans, find.Spans(s, r)) {
					t.Fatalf("%s, Find in %q with %v: %v, %d, %v", name, text, g, one, kind, err)
				}
				l, end, _ := find.All(x, p, s, most, g)
				var want []api.Found
				var firsts []api.Span
				for _, r := range l {
					want = append(want, api.Found{Spans: find.Spans(s, r)})
					if f := find.Spans(s, r)[0]; f.Start != f.End {
						firsts = append(firsts, f)
					}
				}
				all, kind, err := e.FindAll(b, most, g)
				if kind != end || err != api.OK || !slices.EqualFunc(all, want, sameFound) {
					t.Fatalf("%s, FindAll in %q with %v: %v, %d, %v, want %v", name, text, g, all, kind, err, want)
				}
				replaced, _ := edit.Replace(b, want, with)
				split, _ := edit.Split(b, firsts)
				if end == api.Exceeded {
					replaced, split = nil, nil
				}
				out, kind, f := e.Replace(b, []byte("<$0>"), most, g)
				if kind != end || f != (api.Fault{}) || !bytes.Equal(out, replaced) {
					t.Fatalf("%s, Replace in %q with %v: %q, %d, %v, want %q", name, text, g, out, kind, f, replaced)
				}
				lot, kind, err := e.Split(b, most, g)
				if kind != end || err != api.OK || !slices.EqualFunc(lot, split, bytes.Equal) {
					t.Fatalf("%s, Split of %q with %v: %q, %d, %v, want %q", name, text, g, lot, kind, err, split)
				}
			}
		})
	})
}

// bodies tells patterns of up to so many parts, without repetitions of what may be empty, of which libraries have views of their own.
func bodies(tell func(pattern string)) {
	repeats := []string{"", "*", "*?", "+", "??", "{1,2}", "{2}?"}
	var parts []string
	for _, atom := range []string{"a", "[^a]", "(a|ab)", "(?:b|(a)b)"} {
		for _, r := range repeats {
			parts = append(parts, atom+r)
		}
	}
	parts = append(parts, "^", "$", "\\b", "|", "(a*?|b)")
	for _, one := range parts {
		tell(one)
		for _, two := range parts {
			tell(one + two)
			tell("(" + one + ")b*" + two)
			tell(one + "|" + two + "(b|)")
		}
	}
}

func TestAgainstAnotherLibrary(t *testing.T) { // P1: what Go's own library tells of patterns that mean the same to both
	x := props.Load()
	var subjects []string
	texts([]string{"a", "b", " "}, 4, func(text string) { subjects = append(subjects, text) })
	bodies(func(pattern string) {
		e := made(t, x, pattern, plain)
		other := regexp.MustCompile(pattern)
		for _, text := range subjects {
			var want []api.Span
			for l := range slices.Chunk(other.FindStringSubmatchIndex(text), 2) {
				want = append(want, api.Span{Start: l[0], End: l[1]})
			}
			f, kind, err := e.Find([]byte(text), much)
			if err != api.OK || kind == api.Exceeded || !slices.Equal(f.Spans, want) {
				t.Fatalf("%s over %q: %v, %d, %v, want %v", pattern, text, f, kind, err, want)
			}
		}
	})
}

func TestPrinted(t *testing.T) { // P2
	x := props.Load()
	eachEngine(t, x, func(name, _ string, o api.Options, e *engine.Engine) {
		said, err := tree.Print(e.Tree())
		if err != api.OK {
			t.Fatalf("%s: %v", name, err)
		}
		again := made(t, x, said, o)
		if !tree.Same(e.Tree(), again.Tree()) || fmt.Sprint(e.Prog()) != fmt.Sprint(again.Prog()) {
			t.Errorf("%s: %s is another pattern", name, said)
		}
	})
}

func TestEquivalence(t *testing.T) { // P3: the first matches of subjects that are equivalent have as many code points ahead of them, and in them
	x := props.Load()
	places := func(e *engine.Engine, text string) (string, string) {
		s, _ := items.New(x, []byte(text), true)
		r, _ := find.First(x, e.Prog(), s, 0, much)
		f, kind, err := e.Find([]byte(text), much)
		if err != api.OK || kind == api.Match != (len(f.Spans) > 0) || !audit.Edges([]byte(text), []api.Found{f}) {
			t.Fatalf("%q: %v, %d, %v", text, f, kind, err)
		}
		return fmt.Sprint(norm.Runes(x, s.Runes())), fmt.Sprint(kind, r.Caps)
	}
	for _, pattern := range patterns() {
		e := made(t, x, pattern, api.Options{Canon: true, Fold: api.FoldFull})
		told := map[string]string{}
		texts([]string{"e", "\u0301", "\u0323", "\u0307", "s", "\u00e9", "\u1e69"}, 4, func(text string) {
			nfd, got := places(e, text)
			if want, ok := told[nfd]; ok && got != want {
				t.Fatalf("%s over %q: %s, over an equivalent one %s", pattern, text, got, want)
			}
			told[nfd] = got
		})
	}
}

func TestNeed(t *testing.T) { // P4
	x := props.Load()
	for _, pattern := range []string{"", "a", "ab", "(a)b", "a(?=b)", "(?>ab)a", "(?<=a)b", "\\ba", "(a)\\1"} {
		e := made(t, x, pattern, plain)
		texts([]string{"a", "b"}, 4, func(text string) {
			need := compile.Need(e.Prog(), len(text))
			if need.Steps == api.MaxBudget || need.Depth == api.MaxBudget {
				t.Fatalf("%s over %q: %v", pattern, text, need)
			}
			if _, kind, err := e.Find([]byte(text), need); kind == api.Exceeded || err != api.OK {
				t.Errorf("%s over %q with %v: %d, %v", pattern, text, need, kind, err)
			}
			if _, kind, err := e.FindAll([]byte(text), -1, need); kind == api.Exceeded || err != api.OK {
				t.Errorf("%s over %q, all, with %v: %d, %v", pattern, text, need, kind, err)
			}
		})
	}
}

func TestAudited(t *testing.T) { // P5
	x := props.Load()
	eachEngine(t, x, func(name, _ string, _ api.Options, e *engine.Engine) {
		texts(parts(), 4, func(text string) {
			b := []byte(text)
			l, kind, err := e.FindAll(b, -1, much)
			split, _, _ := e.Split(b, -1, much)
			if kind != api.NoMatch || err != api.OK || !audit.Ordered(l, len(b)) || !audit.Edges(b, l) || !audit.Rebuilt(b, split, l) {
				t.Fatalf("%s over %q: %v, %d, %v, %q", name, text, l, kind, err, split)
			}
			if out, _, f := e.Replace(b, []byte("$0"), -1, much); f != (api.Fault{}) || !bytes.Equal(out, b) {
				t.Fatalf("%s over %q: replaced by itself %q, %v", name, text, out, f)
			}
		})
	})
}
