package width_test

import (
	"math/big"
	"testing"

	"rubricator/api"
	"rubricator/width"
)

// What trees take in another way: by numbers of any size, which are cut at the end alone.

// size is how many items, nil being without bound.
type size struct{ least, most *big.Int }

func sizeOf(least, most int64) size { return size{big.NewInt(least), big.NewInt(most)} }

func often(n int) *big.Int { return big.NewInt(max(int64(n), 0)) }

// reckoned is what a node takes; a kid that is not there takes nothing.
func reckoned(n api.Node) size {
	var kids []size
	for _, kid := range n.Kids {
		kids = append(kids, reckoned(kid))
	}
	kid := sizeOf(0, 0)
	if len(kids) > 0 {
		kid = kids[0]
	}
	switch n.Kind {
	case api.NodeSet:
		return sizeOf(1, 1)
	case api.NodeSeq:
		return sum(kids)
	case api.NodeAlt:
		return oneOf(kid, kids)
	case api.NodeGroup, api.NodeAtomic:
		return kid
	case api.NodeBack:
		return size{big.NewInt(0), nil}
	case api.NodeCluster:
		return size{big.NewInt(1), nil}
	case api.NodeRepeat:
		out := size{least: new(big.Int).Mul(kid.least, often(n.A))}
		someTimes := n.B == -1 || n.B > 0
		some := kid.most == nil || kid.most.Sign() > 0
		switch {
		case !some || !someTimes:
			out.most = new(big.Int)
		case kid.most != nil && n.B > 0:
			out.most = new(big.Int).Mul(kid.most, often(n.B))
		}
		return out
	}
	return sizeOf(0, 0)
}

func sum(kids []size) size {
	out := sizeOf(0, 0)
	for _, k := range kids {
		out.least.Add(out.least, k.least)
		if k.most == nil {
			out.most = nil
		}
		if out.most != nil {
			out.most.Add(out.most, k.most)
		}
	}
	return out
}

func oneOf(first size, kids []size) size {
	out := first
	for _, k := range kids {
		if k.least.Cmp(out.least) < 0 {
			out.least = k.least
		}
		if k.most == nil || out.most != nil && k.most.Cmp(out.most) > 0 {
			out.most = k.most
		}
	}
	return out
}

func cut(n *big.Int) int {
	if n == nil {
		return none
	}
	if n.Cmp(big.NewInt(top)) > 0 {
		return top
	}
	return int(n.Int64())
}

// unbound tells whether a look behind in it has too much to look at.
func unbound(n api.Node) bool {
	if n.Kind == api.NodeLook && n.Mode >= api.Behind && n.Mode <= api.NotBehind && len(n.Kids) > 0 {
		if k := reckoned(n.Kids[0]); k.most == nil || k.most.Cmp(big.NewInt(api.MaxWidth)) > 0 {
			return true
		}
	}
	for _, kid := range n.Kids {
		if unbound(kid) {
			return true
		}
	}
	return false
}

// falling tells whether a repetition's A is above its B.
func falling(n api.Node) bool {
	if n.Kind == api.NodeRepeat && n.B != -1 && n.A > n.B {
		return true
	}
	for _, kid := range n.Kids {
		if falling(kid) {
			return true
		}
	}
	return false
}

// maker makes trees that hang on a number alone.
type maker struct{ seed uint32 }

func (m *maker) pick(n int) int {
	m.seed = m.seed*1664525 + 1013904223
	return int(m.seed>>16) % n
}

func (m *maker) number() int {
	return []int{0, 1, 2, 3, 7, 100, 1 << 15, 1 << 29, top, 1 << 40, 1<<63 - 1, -1, -2, -1 << 63, 0, 1, 2, 3}[m.pick(18)]
}

func (m *maker) node(depth int) api.Node {
	kinds := []int{api.NodeSet, api.NodeSet, api.NodeCluster, api.NodeBack, api.NodeAssert, api.NodeChar, 0, api.NodeSeq, api.NodeAlt, api.NodeRepeat, api.NodeGroup, api.NodeLook, api.NodeAtomic, api.NodeSeq, api.NodeAlt, api.NodeRepeat, api.NodeRepeat, api.NodeLook}
	n := api.Node{Kind: kinds[m.pick(len(kinds))], Mode: m.pick(5), A: m.number(), B: m.number()}
	if m.pick(3) > 0 && n.B != -1 && n.A > n.B {
		n.A, n.B = n.B, n.A
	}
	if depth == 0 {
		return n
	}
	many := 1
	if n.Kind == api.NodeSeq || n.Kind == api.NodeAlt || m.pick(20) == 0 {
		many = m.pick(4)
	}
	for range many {
		n.Kids = append(n.Kids, m.node(depth-1))
	}
	return n
}

func TestManyTrees(t *testing.T) { // P18.1, P18.2, P18.3
	rise, unbounds, bounds := 0, 0, 0
	for i := range 30000 {
		m := &maker{seed: uint32(i)}
		n := m.node(m.pick(6))
		least, most := width.Of(n)
		if want := reckoned(n); least != cut(want.least) || most != cut(want.most) {
			t.Fatalf("Of(%v) = %d, %d, want %v, %v", n, least, most, want.least, want.most)
		}
		if most != none && !falling(n) {
			rise++
			if least > most {
				t.Fatalf("Of(%v) = %d, %d", n, least, most)
			}
		}
		want := api.OK
		if unbound(n) {
			want = api.ErrWidth
			unbounds++
		} else {
			bounds++
		}
		if e := width.Bound(n); e != want {
			t.Fatalf("Bound(%v) = %v, want %v", n, e, want)
		}
	}
	if rise < 5000 || unbounds < 500 || bounds < 5000 {
		t.Errorf("only %d, %d and %d trees", rise, unbounds, bounds)
	}
}

// lengths is how many items a small tree may take, each number there is, as a set of bits.
func lengths(n api.Node) uint64 {
	switch n.Kind {
	case api.NodeSet:
		return 1 << 1
	case api.NodeSeq:
		out := uint64(1)
		for _, kid := range n.Kids {
			out = added(out, lengths(kid))
		}
		return out
	case api.NodeAlt:
		out := uint64(0)
		for _, kid := range n.Kids {
			out |= lengths(kid)
		}
		return out
	case api.NodeRepeat:
		kid, now, out := lengths(n.Kids[0]), uint64(1), uint64(0)
		for i := range n.B + 1 {
			if i >= n.A {
				out |= now
			}
			now = added(now, kid)
		}
		return out
	case api.NodeGroup, api.NodeAtomic:
		return lengths(n.Kids[0])
	}
	return 1
}

func added(a, b uint64) uint64 {
	out := uint64(0)
	for i := range 64 {
		if a>>i&1 > 0 {
			out |= b << i
		}
	}
	return out
}

// small is a tree with bounds.
func (m *maker) small(depth int) api.Node {
	if depth == 0 {
		return []api.Node{set, set, edge}[m.pick(3)]
	}
	kid := m.small(depth - 1)
	switch m.pick(6) {
	case 0:
		a := m.pick(3)
		return times(a, a+m.pick(2), kid)
	case 1:
		return alt(kid, m.small(depth-1))
	case 2:
		return group(kid)
	case 3:
		return atomic(kid)
	case 4:
		return look(m.pick(4), kid)
	}
	return seq(kid, m.small(depth-1))
}

func TestEachLength(t *testing.T) { // P18.1, P18.3: the least and the greatest of all numbers that there are
	for i := range 20000 {
		m := &maker{seed: uint32(i)}
		n := m.small(m.pick(4))
		least, most := width.Of(n)
		all := lengths(n)
		if all&(1<<least) == 0 || all&(1<<most) == 0 || all&(1<<least-1) != 0 || all>>most != 1 {
			t.Fatalf("Of(%v) = %d, %d, but there are %b", n, least, most, all)
		}
	}
}
