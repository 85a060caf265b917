package lower_test

import (
	"fmt"
	"slices"
	"strings"
	"testing"

	"rubricator/api"
	"rubricator/class"
	"rubricator/lower"
	"rubricator/parse"
	"rubricator/props"
	"rubricator/tree"
)

// Trees of sets in another way: a tree and its tree of sets are gone through side by side, and what differs is told.

type side struct {
	x     *props.Tables
	o     api.Options
	texts int // nodes with texts that were met
}

// differs tells what is wrong with got in the place of n; empty, if nothing.
func (s *side) differs(n, got api.Node) string {
	switch n.Kind {
	case api.NodeChar, api.NodeAny, api.NodeProp, api.NodeClass:
		return s.item(n, got)
	}
	if len(n.Kids) != len(got.Kids) {
		return fmt.Sprintf("%d kids, want %d", len(got.Kids), len(n.Kids))
	}
	for i := range n.Kids {
		if what := s.differs(n.Kids[i], got.Kids[i]); what != "" {
			return what
		}
	}
	n.Kids, got.Kids = nil, nil
	if !tree.Same(n, got) {
		return fmt.Sprintf("%v, want %v", got, n)
	}
	return ""
}

func (s *side) item(n, got api.Node) string {
	fits, e := class.Set(s.x, n, s.o)
	if e != api.OK {
		return fmt.Sprintf("%v: %v", n, e)
	}
	want := sets(fits)
	if texts := class.Texts(s.x, fits, s.o); len(texts) > 0 && n.Kind != api.NodeAny && n.Kind != api.NodeProp && !n.Neg {
		s.texts++
		want = group(0, "", of(api.NodeAlt))
		for _, text := range texts {
			want.Kids[0].Kids = append(want.Kids[0].Kids, s.row(text))
		}
		want.Kids[0].Kids = append(want.Kids[0].Kids, seq(sets(fits)))
	}
	if !tree.Same(want, got) {
		return fmt.Sprintf("%v for %v, want %v", got, n, want)
	}
	return ""
}

func (s *side) row(text []int) api.Node {
	var l []api.Node
	for _, r := range text {
		one, _ := class.Set(s.x, char(r), s.o)
		l = append(l, sets(one))
	}
	return seq(l...)
}

// depth is how many nodes stand below one another.
func depth(n api.Node) int {
	below := -1
	for _, kid := range n.Kids {
		below = max(below, depth(kid))
	}
	return below + 1
}

func TestManyPatterns(t *testing.T) { // P17.1, P17.3: patterns that hang on a number alone
	x := props.Load()
	pieces := []string{"a", "k", "\u00e9", "\u00df", "\ufb03", "\u1e69", "\u212a", "\u0130", "\n", ".", "|", "(", "(?:", "(?<n%d>", "(?<=", "(?!", "(?>", ")", ")", ")", ")", ")", ")", "a*", "\u00e9+?", ".{2,3}+", "^", `\b{g}`, `\d`, `\W`, `\p{Lu}`, `\X`, "[a-z]", "[\u00df-\u00e2]", "[^\u00df-\u00e2]", "[\\w--\u00e9]", `[^\d--[2-4\]]~~\x{41}]`, "[[^a]&&\u00e0-\u00e9]", `(a)`, `\p{Any}`, `[\p{Any}]`}
	options := allOptions()
	trees, texts := 0, 0
	for i := range 1500 {
		seed := uint32(i)
		pick := func(n int) int {
			seed = seed*1664525 + 1013904223
			return int(seed>>16) % n
		}
		var p strings.Builder
		open := 0
		for k := range pick(25) {
			piece := strings.ReplaceAll(pieces[pick(len(pieces))], "%d", fmt.Sprint(k))
			switch {
			case piece == ")" && open == 0:
				continue
			case piece == ")":
				open--
			case piece[0] == '(' && piece[len(piece)-1] != ')':
				open++
			}
			p.WriteString(piece)
		}
		p.WriteString(strings.Repeat(")", open))
		n, f := parse.Parse([]byte(p.String()))
		if f.Code != api.OK {
			continue
		}
		trees++
		o := options[pick(len(options))]
		got, e := lower.Lower(x, n, o)
		s := &side{x: x, o: o}
		if what := s.differs(n, got); e != api.OK || what != "" {
			t.Fatalf("%s with %+v: %v, %s", p.String(), o, e, what)
		}
		if !lower.Plain(got) {
			t.Fatalf("%s with %+v: %v is no tree of sets", p.String(), o, got)
		}
		texts += s.texts
	}
	if trees < 1000 || texts < 200 {
		t.Errorf("only %d trees, with %d texts", trees, texts)
	}
}

func TestEachCodePoint(t *testing.T) { // P17.1: of those of which the files tell, and some others
	x := props.Load()
	var points []int
	for _, l := range []func() string{api.Decompositions, api.Folding} {
		for line := range strings.SplitSeq(l(), "\n") {
			var r int
			if _, err := fmt.Sscanf(line, "%x", &r); err == nil {
				points = append(points, r, r+1)
			}
		}
	}
	points = append(points, 0, '1', 0xac00, 0xd7a3, 0xd7ff, 0xe000, 0x1f600, api.MaxRune)
	slices.Sort(points)
	texts := 0
	for _, r := range slices.Compact(points) {
		in := api.Node{Kind: api.NodeClass, Kids: []api.Node{char(r)}}
		out := in
		out.Neg = true
		n := seq(char(r), in, out)
		for _, o := range allOptions() {
			got, e := lower.Lower(x, n, o)
			s := &side{x: x, o: o}
			if what := s.differs(n, got); e != api.OK || what != "" {
				t.Fatalf("%x with %+v: %v, %s", r, o, e, what)
			}
			texts += s.texts
		}
	}
	if texts < 100 {
		t.Errorf("only %d texts", texts)
	}
}

func TestDeepestTrees(t *testing.T) { // P17.3: as many nodes below one another as a tree may have
	x := props.Load()
	n := alt(seq(times(0, 1, 0, char(0xe9))), seq())
	for range api.MaxDepth {
		n = alt(seq(times(0, 1, 0, group(0, "", n))), seq())
	}
	for _, o := range allOptions() {
		got, e := lower.Lower(x, n, o)
		if e != api.OK || !lower.Plain(got) || depth(got) < depth(n) {
			t.Errorf("with %+v: %v, %d deep", o, e, depth(got))
		}
	}
	if tree.Can(seq(group(0, "", n))) {
		t.Error("one deeper is a tree")
	}
}
