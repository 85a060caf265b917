package tree_test

import (
	"fmt"
	"regexp"
	"slices"
	"strings"
	"testing"

	"rubricator/api"
	"rubricator/names"
	"rubricator/token"
	"rubricator/tree"
)

// Trees in another way: the pattern is put together without a look at what is right, and each of the chapter's conditions is asked on its own.

var (
	openers    = map[int]string{api.Ahead: "(?=", api.NotAhead: "(?!", api.Behind: "(?<=", api.NotBehind: "(?<!"}
	signs      = map[int]string{api.Meet: "&&", api.Minus: "--", api.Xor: "~~"}
	tails      = map[int]string{api.Greedy: "", api.Lazy: "?", api.Possessive: "+"}
	assertions = map[int]string{api.AtBegin: "^", api.AtEnd: "$", api.TextBegin: `\A`, api.TextEnd: `\z`, api.WordEdge: `\b`, api.NoWordEdge: `\B`, api.Cluster: `\b{g}`, api.NoCluster: `\B{g}`, api.Words: `\b{w}`, api.NoWords: `\B{w}`}
	nameForm   = regexp.MustCompile(`^[A-Za-z_][A-Za-z0-9_]{0,19}$`)
)

func joined(l []api.Node, between string, class bool) string {
	var out []string
	for _, n := range l {
		out = append(out, written(n, class))
	}
	return strings.Join(out, between)
}

// written is what a node's pattern would be.
func written(n api.Node, class bool) string {
	kids := func(between string) string { return joined(n.Kids, between, false) }
	switch n.Kind {
	case api.NodeChar:
		return token.Print(n.A, class)
	case api.NodeRange:
		return token.Print(n.A, true) + "-" + token.Print(n.B, true)
	case api.NodeProp:
		text := map[string]string{"d": `\d`, "w": `\w`, "s": `\s`}[n.Name]
		switch {
		case text != "" && n.Neg:
			return strings.ToUpper(text)
		case text != "":
			return text
		case n.Neg:
			return `\P{` + n.Name + "}"
		}
		return `\p{` + n.Name + "}"
	case api.NodeAlt:
		return kids("|")
	case api.NodeRepeat:
		return kids("") + count(n.A, n.B) + tails[n.Mode]
	case api.NodeGroup:
		switch {
		case n.A == 0:
			return "(?:" + kids("") + ")"
		case n.Name == "":
			return "(" + kids("") + ")"
		}
		return "(?<" + n.Name + ">" + kids("") + ")"
	case api.NodeLook:
		return openers[n.Mode] + kids("") + ")"
	case api.NodeAtomic:
		return "(?>" + kids("") + ")"
	case api.NodeClass:
		if n.Neg {
			return "[^" + inner(n) + "]"
		}
		return "[" + inner(n) + "]"
	case api.NodeBack:
		return fmt.Sprintf(`\k{%d}`, n.A)
	}
	return map[int]string{api.NodeAny: ".", api.NodeCluster: `\X`, api.NodeAssert: assertions[n.Mode], api.NodeSeq: kids("")}[n.Kind]
}

// count is how a repetition's numbers are written.
func count(least, most int) string {
	text := fmt.Sprintf("{%d,%d}", least, most)
	if short, ok := map[string]string{"{0,-1}": "*", "{1,-1}": "+", "{0,1}": "?"}[text]; ok {
		return short
	}
	if least == most {
		return fmt.Sprintf("{%d}", least)
	}
	return strings.Replace(text, ",-1}", ",}", 1)
}

// inner is what stands between a class's brackets.
func inner(n api.Node) string {
	if signs[n.Mode] == "" {
		return joined(n.Kids, "", true)
	}
	var out []string
	for _, side := range n.Kids {
		out = append(out, inner(side))
	}
	return strings.Join(out, signs[n.Mode])
}

// each tells all nodes, in the order in which they begin, with those that they lie within.
func each(n api.Node, above []api.Node, tell func(n api.Node, above []api.Node)) {
	tell(n, above)
	for _, kid := range n.Kids {
		each(kid, append(slices.Clip(above), n), tell)
	}
}

// roles: what a node is there as.
const (
	asBody = iota
	asSeq
	asPart
	asRepeated
	asMember
	asLeft
	asRight
	asNone
)

// fits tells whether a node of that kind may stand there.
func fits(n api.Node, role int) bool {
	kinds := map[int][]int{
		asBody: {api.NodeSeq, api.NodeAlt}, asSeq: {api.NodeSeq},
		asPart:     {api.NodeChar, api.NodeAny, api.NodeClass, api.NodeProp, api.NodeRepeat, api.NodeGroup, api.NodeLook, api.NodeAtomic, api.NodeAssert, api.NodeBack, api.NodeCluster},
		asRepeated: {api.NodeChar, api.NodeAny, api.NodeClass, api.NodeProp, api.NodeGroup, api.NodeAtomic, api.NodeBack, api.NodeCluster},
		asMember:   {api.NodeChar, api.NodeRange, api.NodeProp, api.NodeClass}, asLeft: {api.NodeClass}, asRight: {api.NodeClass},
	}[role]
	side := role == asLeft || role == asRight
	return slices.Contains(kinds, n.Kind) && !(side && n.Neg) && !(role == asRight && n.Mode != api.Union)
}

// kidsOf is how many kids a node may have, and as what the first and the later ones are there.
func kidsOf(n api.Node) (least, most, first, later int) {
	const many = 1 << 30
	switch n.Kind {
	case api.NodeSeq:
		return 0, many, asPart, asPart
	case api.NodeAlt:
		return 2, many, asSeq, asSeq
	case api.NodeRepeat:
		return 1, 1, asRepeated, asNone
	case api.NodeGroup, api.NodeLook, api.NodeAtomic:
		return 1, 1, asBody, asNone
	case api.NodeClass:
		if n.Mode != api.Union {
			return 2, 2, asLeft, asRight
		}
		return 1, many, asMember, asMember
	}
	return 0, 0, asNone, asNone
}

// isPoint tells whether a number is a code point and no surrogate.
func isPoint(r int) bool { return r >= 0 && r <= api.MaxRune && (r < 0xd800 || r > 0xdfff) }

// isProp tells whether a name is one that a property of a tree may have.
func isProp(name string) bool {
	if name == "d" || name == "w" || name == "s" {
		return true
	}
	kind, value := api.PropBinary, name
	if v, ok := strings.CutPrefix(name, "gc="); ok {
		kind, value = api.PropCategory, v
	} else if v, ok := strings.CutPrefix(name, "sc="); ok {
		kind, value = api.PropScript, v
	}
	_, ok := names.Long(kind, value)
	return ok
}

// fieldsFit tells whether a node's own fields are right, those that it has none of left out of the copy that it must then be.
func fieldsFit(n api.Node) bool {
	want := api.Node{Kind: n.Kind, Kids: n.Kids}
	ok := true
	switch n.Kind {
	case api.NodeChar:
		want.A, ok = n.A, isPoint(n.A)
	case api.NodeRange:
		want.A, want.B, ok = n.A, n.B, isPoint(n.A) && isPoint(n.B) && n.A <= n.B
	case api.NodeClass:
		want.Mode, want.Neg, ok = n.Mode, n.Neg, n.Mode == api.Union || signs[n.Mode] != ""
	case api.NodeProp:
		want.Name, want.Neg, ok = n.Name, n.Neg, isProp(n.Name)
	case api.NodeRepeat:
		_, mode := tails[n.Mode]
		want.A, want.B, want.Mode, ok = n.A, n.B, n.Mode, mode && n.A >= 0 && n.A <= 100 && (n.B == -1 || n.B >= n.A && n.B <= 100)
	case api.NodeGroup:
		want.A, want.Name, ok = n.A, n.Name, n.Name == "" || n.A != 0 && nameForm.MatchString(n.Name)
	case api.NodeLook:
		want.Mode, ok = n.Mode, openers[n.Mode] != ""
	case api.NodeAssert:
		want.Mode, ok = n.Mode, assertions[n.Mode] != ""
	case api.NodeBack:
		want.A = n.A
	}
	return ok && tree.Same(n, want)
}

func shaped(n api.Node, role int) bool {
	least, most, first, later := kidsOf(n)
	if !fits(n, role) || !fieldsFit(n) || len(n.Kids) < least || len(n.Kids) > most {
		return false
	}
	for i, kid := range n.Kids {
		as := later
		if i == 0 {
			as = first
		}
		if !shaped(kid, as) {
			return false
		}
	}
	return true
}

// isTree tells whether a node is a tree.
func isTree(n api.Node) bool {
	ok := shaped(n, asBody)
	groups := 0
	var named []string
	each(n, nil, func(n api.Node, above []api.Node) {
		if n.Kind == api.NodeGroup && n.A != 0 {
			groups++
			ok = ok && n.A == groups && groups <= api.MaxGroups
		}
		if n.Name != "" && n.Kind == api.NodeGroup {
			ok = ok && !slices.Contains(named, n.Name)
			named = append(named, n.Name)
		}
		if n.Kind == api.NodeBack {
			ok = ok && n.A >= 1 && n.A <= groups
		}
		ok = ok && bracketsOf(n, above) <= api.MaxDepth
	})
	return ok && len(written(n, false)) <= api.MaxPattern
}

// bracketsOf is how many brackets a node lies within, its own counted.
func bracketsOf(n api.Node, above []api.Node) int {
	count := 0
	row := append(slices.Clip(above), n)
	for i, x := range row {
		side := i > 0 && row[i-1].Kind == api.NodeClass && signs[row[i-1].Mode] != ""
		if x.Kind == api.NodeGroup || x.Kind == api.NodeLook || x.Kind == api.NodeAtomic || x.Kind == api.NodeClass && !side {
			count++
		}
	}
	return count
}

// held holds all that is told of a node against what is reckoned, and tells whether it is a tree.
func held(t *testing.T, n api.Node) (string, bool) {
	t.Helper()
	want := isTree(n)
	if tree.Can(n) != want {
		t.Fatalf("Can(%+v) = %v", n, !want)
	}
	s, e := tree.Print(n)
	if want && (e != api.OK || s != written(n, false)) || !want && (e != api.ErrArg || s != "") {
		t.Fatalf("Print(%+v) = %q, %v", n, s, e)
	}
	groups, depth := 0, 0
	each(n, nil, func(n api.Node, above []api.Node) {
		if n.Kind == api.NodeGroup && n.A > 0 {
			groups++
		}
		depth = max(depth, bracketsOf(n, above))
	})
	if tree.Groups(n) != groups || tree.Depth(n) != depth || !tree.Same(n, n) {
		t.Fatalf("of %+v: Groups %d, Depth %d, Same %v", n, tree.Groups(n), tree.Depth(n), tree.Same(n, n))
	}
	return s, want
}

// told is patterns and the trees whose they are.
type told map[string]api.Node

// note checks that a pattern is of no other tree, and is read without a fault.
func (l told) note(t *testing.T, s string, n api.Node) {
	t.Helper()
	if other, ok := l[s]; ok && !tree.Same(n, other) {
		t.Fatalf("%q is the pattern of %+v and of %+v", s, n, other)
	}
	l[s] = n
	if _, f := token.Scan([]byte(s)); f.Code != api.OK {
		t.Fatalf("Scan(%q): fault %v", s, f)
	}
}

func TestSmallTrees(t *testing.T) { // P14.1, P14.2, P14.3
	parts := []api.Node{char('a'), char('?'), char('{'), char('-'), char('^'), char(0xd800), dot, cluster, prop("d", true), prop("gc=L", false), prop("L", false), assertion(api.WordEdge), assertion(api.Cluster), assertion(0), back(1), span('a', 'b'), letter, seq(), {}}
	wrapped := func(l []api.Node) []api.Node {
		var out []api.Node
		for _, n := range l {
			out = append(out, repeat(0, -1, 0, n), repeat(0, -1, 1, n), repeat(1, 1, 2, n), repeat(2, 1, 0, n))
			for _, body := range []api.Node{n, seq(n), alt(seq(n), seq()), alt(seq(n))} {
				out = append(out, group(0, "", body), group(1, "", body), group(1, "n", body), group(2, "", body), look(api.Ahead, body), look(api.Behind, body), atomic(body))
			}
			for mode := range 5 {
				out = append(out, class(mode, n), class(mode, n, n), class(mode, letter, n), not(class(mode, letter, class(0, n))), class(mode, class(0, n), letter))
			}
		}
		return out
	}
	l := told{}
	all := append(slices.Clone(parts), wrapped(parts)...)
	all = append(all, wrapped(all)...)
	trees := 0
	check := func(n api.Node) {
		if s, ok := held(t, n); ok {
			trees++
			l.note(t, s, n)
		}
	}
	for _, n := range all {
		check(n)
		check(seq(n))
		check(seq(group(1, "", seq()), n))
		check(alt(seq(char('a')), seq(n, dot)))
	}
	for _, a := range parts {
		for _, b := range wrapped(parts) {
			check(seq(a, b))
			check(seq(b, a))
			check(seq(class(api.Union, a, b)))
		}
	}
	if trees < 10000 || len(l) < 1000 {
		t.Errorf("%d trees, %d patterns", trees, len(l))
	}
}

// maker makes trees that hang on a number alone.
type maker struct {
	seed   uint32
	groups int
}

func (m *maker) pick(n int) int {
	m.seed = m.seed*1664525 + 1013904223
	return int(m.seed>>16) % n
}

func (m *maker) point() int {
	return []int{'a', 'b', '-', '^', ']', '[', '&', '~', '\\', '{', '}', '?', '|', 0, 10, 127, 0xe9, 0x301, 0x1f600, api.MaxRune}[m.pick(20)]
}

func (m *maker) body(depth int) api.Node {
	one := func() api.Node {
		var l []api.Node
		for range m.pick(4) {
			l = append(l, m.part(depth))
		}
		return seq(l...)
	}
	if m.pick(3) > 0 {
		return one()
	}
	l := []api.Node{one(), one()}
	for range m.pick(2) {
		l = append(l, one())
	}
	return alt(l...)
}

func (m *maker) property() api.Node {
	return prop([]string{"d", "w", "s", "gc=Lu", "gc=L", "sc=Grek", "space", "Any"}[m.pick(8)], m.pick(2) == 0)
}

func (m *maker) part(depth int) api.Node {
	if depth == 0 {
		return char(m.point())
	}
	switch m.pick(12) {
	case 0:
		return dot
	case 1:
		return m.class(depth)
	case 2:
		return m.property()
	case 3:
		kid := m.part(depth - 1)
		if !fits(kid, asRepeated) {
			return kid
		}
		least := m.pick(4)
		return repeat(least, []int{-1, least, least + 1, 100}[m.pick(4)], m.pick(3), kid)
	case 4:
		return group(0, "", m.body(depth-1))
	case 5:
		m.groups++
		n := m.groups
		return group(n, []string{"", fmt.Sprint("n", n)}[m.pick(2)], m.body(depth-1))
	case 6:
		return look(m.pick(4), m.body(depth-1))
	case 7:
		return atomic(m.body(depth - 1))
	case 8:
		return assertion(1 + m.pick(10))
	case 9:
		if m.groups > 0 {
			return back(1 + m.pick(m.groups))
		}
		return cluster
	}
	return char(m.point())
}

func (m *maker) union(depth int) api.Node {
	var l []api.Node
	for range 1 + m.pick(3) {
		switch a, b := m.point(), m.point(); m.pick(5) {
		case 0:
			l = append(l, span(min(a, b), max(a, b)))
		case 1:
			l = append(l, m.property())
		case 2:
			if depth > 0 {
				l = append(l, m.class(depth-1))
				continue
			}
			fallthrough
		default:
			l = append(l, char(a))
		}
	}
	return class(api.Union, l...)
}

func (m *maker) class(depth int) api.Node {
	n := m.union(depth)
	for range m.pick(3) {
		n = class(1+m.pick(3), n, m.union(depth))
	}
	n.Neg = m.pick(2) == 0
	return n
}

// spoilt is a copy of a tree with one field of one node changed.
func (m *maker) spoilt(n api.Node) api.Node {
	if len(n.Kids) > 0 && m.pick(4) > 0 {
		n.Kids = slices.Clone(n.Kids)
		i := m.pick(len(n.Kids))
		n.Kids[i] = m.spoilt(n.Kids[i])
		return n
	}
	switch m.pick(9) {
	case 0:
		n.Kind = m.pick(17)
	case 1:
		n.Mode = m.pick(12) - 1
	case 2:
		n.A = []int{-1, 0, 1, 2, 100, 101, 0xd800, api.MaxRune + 1}[m.pick(8)]
	case 3:
		n.B = []int{-2, -1, 0, 1, 100, 101, 0xdfff}[m.pick(7)]
	case 4:
		n.Neg = !n.Neg
	case 5:
		n.Name = []string{"", "d", "n1", "n2", "1", "gc=Lu", "Any", "x>"}[m.pick(8)]
	case 6:
		n.Set = []api.Range{{Lo: 1, Hi: 2}}[:m.pick(2)]
	case 7:
		n.Kids = n.Kids[:len(n.Kids)/2]
	case 8:
		n.Kids = append(slices.Clip(n.Kids), []api.Node{dot, seq(), letter, char('a')}[m.pick(4)])
	}
	return n
}

func TestManyTrees(t *testing.T) { // P14.1, P14.2, P14.3
	l := told{}
	trees, others := 0, 0
	for i := range 4000 {
		m := &maker{seed: uint32(i)}
		n := m.body(1 + m.pick(6))
		s, ok := held(t, n)
		if !ok && len(written(n, false)) <= api.MaxPattern && m.groups <= api.MaxGroups {
			t.Fatalf("%+v is no tree", n)
		}
		for range 3 {
			if ok {
				l.note(t, s, n)
				trees++
			} else {
				others++
			}
			last := n
			n = m.spoilt(n)
			if tree.Same(n, last) != (fmt.Sprintf("%v", n) == fmt.Sprintf("%v", last)) {
				t.Fatalf("Same(%+v, %+v) = %v", n, last, tree.Same(n, last))
			}
			s, ok = held(t, n)
		}
	}
	if trees < 3000 || others < 3000 {
		t.Errorf("%d trees, %d that are none", trees, others)
	}
}
