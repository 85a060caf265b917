package vm_test

import (
	"slices"
	"testing"

	"rubricator/api"
	"rubricator/cluster"
	"rubricator/compile"
	"rubricator/fold"
	"rubricator/props"
	"rubricator/ranges"
	"rubricator/vm"
	"rubricator/width"
	"rubricator/word"
)

// What a tree has, in its order, told by the tree alone: each node hands what it comes to on to what follows, which says whether that will do.

type state struct {
	at     int
	groups []int // never changed: who saves a place makes a new list
}

type matcher struct {
	x *props.Tables
	l []int
	o api.Options
}

func (m matcher) node(n api.Node, s state, then func(state) bool) bool {
	switch n.Kind {
	case api.NodeSet:
		return s.at < len(m.l) && ranges.Has(n.Set, m.l[s.at]) && then(state{s.at + 1, s.groups})
	case api.NodeSeq:
		if len(n.Kids) == 0 {
			return then(s)
		}
		rest := n
		rest.Kids = n.Kids[1:]
		return m.node(n.Kids[0], s, func(s state) bool { return m.node(rest, s, then) })
	case api.NodeAlt:
		return slices.ContainsFunc(n.Kids, func(kid api.Node) bool { return m.node(kid, s, then) })
	case api.NodeRepeat:
		if n.Mode == api.Possessive {
			n.Mode = api.Greedy
			return m.first(n, s, then)
		}
		return m.repeat(n, 0, s, then)
	case api.NodeGroup:
		if n.A == 0 {
			return m.node(n.Kids[0], s, then)
		}
		return m.node(n.Kids[0], s.saved(2*n.A), func(s state) bool { return then(s.saved(2*n.A + 1)) })
	case api.NodeAtomic:
		return m.first(n.Kids[0], s, then)
	case api.NodeLook:
		return m.look(n, s, then)
	case api.NodeAssert:
		return m.so(n.Mode, s.at) && then(s)
	case api.NodeBack:
		return m.again(n.A, s, then)
	}
	return s.at < len(m.l) && then(state{cluster.Next(m.x, m.l, s.at), s.groups})
}

func (s state) saved(i int) state {
	s.groups = slices.Clone(s.groups)
	s.groups[i] = s.at
	return s
}

// first takes the first of what a node has, alone.
func (m matcher) first(n api.Node, s state, then func(state) bool) bool {
	var got state
	return m.node(n, s, func(s state) bool { got = s; return true }) && then(got)
}

// repeat is a repetition, behind so many times.
func (m matcher) repeat(n api.Node, times int, s state, then func(state) bool) bool {
	on := func() bool {
		return (n.B == -1 || times < n.B) && m.node(n.Kids[0], s, func(next state) bool {
			if n.B == -1 && times >= n.A && next.at == s.at { // without end: what takes nothing is the last
				return then(next)
			}
			return m.repeat(n, times+1, next, then)
		})
	}
	switch {
	case times < n.A:
		return on()
	case n.Mode == api.Lazy:
		return then(s) || on()
	}
	return on() || then(s)
}

func (m matcher) look(n api.Node, s state, then func(state) bool) bool {
	began := []int{s.at}
	behind := n.Mode == api.Behind || n.Mode == api.NotBehind
	if least, most := width.Of(n.Kids[0]); behind {
		began = nil
		for k := least; k <= most && k <= s.at; k++ {
			began = append(began, s.at-k)
		}
	}
	var got state
	came := slices.ContainsFunc(began, func(from int) bool {
		return m.node(n.Kids[0], state{from, s.groups}, func(end state) bool { got = end; return !behind || end.at == s.at })
	})
	if n.Mode == api.NotAhead || n.Mode == api.NotBehind {
		return !came && then(s)
	}
	return came && then(state{s.at, got.groups})
}

func (m matcher) so(mode, at int) bool {
	lineEnd := func(r int) bool { return r == 0xa || r == 0xd || r == 0x85 || r == 0x2028 || r == 0x2029 }
	inner := at > 0 && at < len(m.l)
	between := inner && m.l[at-1] == 0xd && m.l[at] == 0xa
	switch mode {
	case api.AtBegin:
		return at == 0 || m.o.Multi && lineEnd(m.l[at-1]) && !between
	case api.AtEnd:
		return at == len(m.l) || m.o.Multi && lineEnd(m.l[at]) && !between
	case api.TextBegin:
		return at == 0
	case api.TextEnd:
		return at == len(m.l)
	case api.WordEdge, api.NoWordEdge:
		return word.Simple(m.x, m.l, at) == (mode == api.WordEdge)
	case api.Cluster, api.NoCluster:
		return cluster.Edge(m.x, m.l, at) == (mode == api.Cluster)
	}
	return word.Edge(m.x, m.l, at) == (mode == api.Words)
}

func (m matcher) again(group int, s state, then func(state) bool) bool {
	from, to := s.groups[2*group], s.groups[2*group+1]
	if from < 0 || to < 0 || to < from || s.at+to-from > len(m.l) {
		return false
	}
	for i := range to - from {
		a, b := m.l[from+i], m.l[s.at+i]
		if m.o.Fold > 0 && !fold.Same(m.x, a, b) || m.o.Fold == 0 && a != b {
			return false
		}
	}
	return then(state{s.at + to - from, s.groups})
}

// of is the first of what a tree has from a place on: the places, or none.
func (m matcher) of(n api.Node, groups, at int) []int {
	s := state{at, slices.Repeat([]int{-1}, 2*groups+2)}
	var out []int
	m.node(n, s.saved(0), func(end state) bool { out = end.saved(1).groups; return true })
	return out
}

// tree is a tree of sets so deep; bound: of a known width.
func (m *maker) tree(deep int, bound bool) api.Node {
	if deep == 0 {
		return m.leaf(bound)
	}
	n := api.Node{Kind: []int{api.NodeSeq, api.NodeSeq, api.NodeAlt, api.NodeRepeat, api.NodeRepeat, api.NodeGroup, api.NodeLook, api.NodeAtomic}[m.pick(8)]}
	kids := 1
	switch n.Kind {
	case api.NodeSeq:
		kids = m.pick(4)
	case api.NodeAlt:
		kids = 1 + m.pick(3)
	case api.NodeRepeat:
		n.A, n.Mode = m.pick(3), m.pick(3)
		n.B = n.A + m.pick(3)
		if !bound && m.pick(2) > 0 {
			n.B = -1
		}
	case api.NodeGroup:
		if m.groups < 4 && m.pick(4) > 0 {
			m.groups++
			n.A = m.groups
		}
	case api.NodeLook:
		n.Mode = m.pick(4)
		bound = bound || n.Mode >= api.Behind
	}
	for range kids {
		n.Kids = append(n.Kids, m.tree(m.pick(deep), bound))
	}
	return n
}

func (m *maker) leaf(bound bool) api.Node {
	switch k := m.pick(10); {
	case k == 0:
		return api.Node{Kind: api.NodeAssert, Mode: 1 + m.pick(10)}
	case k <= 2 && !bound && m.groups > 0:
		return api.Node{Kind: api.NodeBack, A: 1 + m.pick(m.groups)}
	case k == 3 && !bound:
		return api.Node{Kind: api.NodeCluster}
	case k == 4:
		return api.Node{Kind: api.NodeSeq}
	}
	return api.Node{Kind: api.NodeSet, Set: m.set()}
}

func TestWhatTreesHave(t *testing.T) { // P20.4: P1 of DOC.md
	x := props.Load()
	found, none, sets := 0, 0, 0
	for seed := range 100_000 {
		m := maker{seed: uint32(seed)}
		n := m.tree(2+m.pick(6), false)
		o := api.Options{Multi: m.pick(2) > 0, Fold: m.pick(3)}
		p, e := compile.Prog(n, o)
		if e == api.ErrSize || e == api.ErrWidth {
			continue
		}
		l := m.text()
		at := m.pick(len(l) + 1)
		got := vm.Run(x, p, l, at, api.Budget{Steps: 20_000, Depth: api.MaxBudget})
		if e != api.OK || got.Kind == 0 {
			t.Fatalf("%v: %v, %v", n, e, got)
		}
		if got.Kind == api.Exceeded {
			continue
		}
		want := matcher{x, l, o}.of(n, p.Groups, at)
		if !slices.Equal(got.Caps, want) || (got.Kind == api.Match) != (want != nil) {
			t.Fatalf("%d: %v over %x at %d: %v, want %v", seed, n, l, at, got, want)
		}
		switch {
		case want == nil:
			none++
		case want[1] > at:
			found++
		}
		if slices.ContainsFunc(want[min(2, len(want)):], func(place int) bool { return place > 0 }) {
			sets++
		}
	}
	if found < 5000 || none < 5000 || sets < 500 {
		t.Errorf("%d found, %d not, %d with groups", found, none, sets)
	}
}

func TestNeed(t *testing.T) { // P20.3
	x := props.Load()
	runs, looks := 0, 0
	for seed := range 60_000 {
		m := maker{seed: uint32(seed)}
		p, e := compile.Prog(m.tree(m.pick(4), false), api.Options{})
		if e != api.OK {
			continue
		}
		l := m.text()
		b := compile.Need(p, len(l))
		if b.Steps == api.MaxBudget || b.Depth == api.MaxBudget {
			continue
		}
		runs++
		for at := range len(l) + 1 {
			if r := vm.Run(x, p, l, at, b); r.Kind != api.Match && r.Kind != api.NoMatch || r.Steps > b.Steps {
				t.Fatalf("%v over %x at %d with %v: %v", p, l, at, b, r)
			}
		}
		if slices.ContainsFunc(p.Code, func(i api.Inst) bool { return i.Op == api.OpLook || i.Op == api.OpAtomic }) {
			looks++
		}
	}
	if runs < 10_000 || looks < 3000 {
		t.Errorf("only %d runs, %d of them with runs within", runs, looks)
	}
}
