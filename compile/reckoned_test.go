package compile_test

import (
	"fmt"
	"slices"
	"testing"

	"rubricator/api"
	"rubricator/compile"
	"rubricator/lower"
	"rubricator/width"
)

// Programs in another way: instructions are written one by one into one list, with labels for places, which are known at the end.

type label *int

// line is an instruction whose places are labels, where it has some.
type line struct {
	i    api.Inst
	x, y label
}

type writer struct {
	lines []line
	marks int
}

func (w *writer) put(i api.Inst) { w.lines = append(w.lines, line{i: i}) }
func (w *writer) split(x, y label) {
	w.lines = append(w.lines, line{i: api.Inst{Op: api.OpSplit}, x: x, y: y})
}
func (w *writer) jump(x label)           { w.lines = append(w.lines, line{i: api.Inst{Op: api.OpJump}, x: x}) }
func (w *writer) to(i api.Inst, y label) { w.lines = append(w.lines, line{i: i, y: y}) }
func (w *writer) here(l label)           { *l = len(w.lines) }
func (w *writer) next() label            { l := len(w.lines) + 1; return &l }
func (w *writer) save(x int)             { w.put(api.Inst{Op: api.OpSave, X: x}) }
func (w *writer) block(i api.Inst, f func()) {
	end := new(int)
	w.to(i, end)
	f()
	w.put(done)
	w.here(end)
}

func (w *writer) node(n api.Node) {
	if len(w.lines) > api.MaxCode { // too long already
		return
	}
	switch n.Kind {
	case api.NodeSet:
		w.put(api.Inst{Op: api.OpSet, Set: n.Set})
	case api.NodeSeq:
		for _, kid := range n.Kids {
			w.node(kid)
		}
	case api.NodeAlt:
		end := new(int)
		for len(n.Kids) > 1 {
			second := new(int)
			w.split(w.next(), second)
			w.node(n.Kids[0])
			w.jump(end)
			w.here(second)
			n.Kids = n.Kids[1:]
		}
		w.node(n.Kids[0])
		w.here(end)
	case api.NodeRepeat:
		if n.Mode == api.Possessive {
			n.Mode = api.Greedy
			w.block(api.Inst{Op: api.OpAtomic}, func() { w.node(n) })
			return
		}
		w.repeat(n)
	case api.NodeGroup:
		if n.A > 0 {
			w.save(2 * n.A)
			defer w.save(2*n.A + 1)
		}
		w.node(n.Kids[0])
	case api.NodeLook:
		i := api.Inst{Op: api.OpLook, X: n.Mode}
		if n.Mode == api.Behind || n.Mode == api.NotBehind {
			i.Min, i.Max = width.Of(n.Kids[0])
		}
		w.block(i, func() { w.node(n.Kids[0]) })
	case api.NodeAtomic:
		w.block(api.Inst{Op: api.OpAtomic}, func() { w.node(n.Kids[0]) })
	case api.NodeAssert:
		w.put(api.Inst{Op: api.OpAssert, X: n.Mode})
	case api.NodeBack:
		w.put(api.Inst{Op: api.OpBack, X: n.A})
	case api.NodeCluster:
		w.put(api.Inst{Op: api.OpCluster})
	}
}

func (w *writer) repeat(n api.Node) {
	end := new(int)
	either := func() {
		if on := w.next(); n.Mode == api.Greedy {
			w.split(on, end)
		} else {
			w.split(end, on)
		}
	}
	for range n.A {
		w.node(n.Kids[0])
	}
	for range n.B - n.A {
		either()
		w.node(n.Kids[0])
	}
	if n.B == -1 {
		begin := len(w.lines)
		mark := w.marks
		w.marks++
		either()
		w.put(api.Inst{Op: api.OpMark, X: mark})
		w.node(n.Kids[0])
		w.to(api.Inst{Op: api.OpCheck, X: mark}, end)
		w.jump(&begin)
	}
	w.here(end)
}

// written is a tree's instructions, and how many marks they have.
func written(n api.Node) ([]api.Inst, int) {
	var w writer
	w.save(0)
	w.node(n)
	w.save(1)
	w.put(done)
	var out []api.Inst
	for _, l := range w.lines {
		if l.x != nil {
			l.i.X = *l.x
		}
		if l.y != nil {
			l.i.Y = *l.y
		}
		out = append(out, l.i)
	}
	return out, w.marks
}

// maker makes trees that hang on a number alone.
type maker struct {
	seed   uint32
	groups int
}

func (m *maker) pick(n int) int {
	m.seed = m.seed*1664525 + 1013904223
	return int(m.seed>>16) % n
}

// tree is a tree of sets so deep; bound: of a known width.
func (m *maker) tree(deep int, bound bool) api.Node {
	if deep == 0 {
		return m.leaf(bound)
	}
	kid := func() api.Node { return m.tree(deep-1, bound) }
	kids := func(least int) []api.Node {
		var l []api.Node
		for range least + m.pick(3) {
			l = append(l, m.tree(m.pick(deep), bound))
		}
		return l
	}
	switch m.pick(8) {
	case 0, 1:
		return seq(kids(0)...)
	case 2:
		return alt(kids(1)...)
	case 3, 4:
		least := m.pick(3)
		if m.pick(5) == 0 {
			least = m.pick(90)
		}
		most := least + m.pick(3)
		if !bound && m.pick(2) > 0 {
			most = -1
		}
		return times(least, most, m.pick(3), kid())
	case 5:
		if m.groups < api.MaxGroups && m.pick(4) > 0 {
			m.groups++
			number := m.groups
			return group(number, fmt.Sprint("n", number), kid())
		}
		return group(0, "n", kid())
	case 6:
		mode := m.pick(4)
		return look(mode, m.tree(deep-1, bound || mode >= api.Behind && m.pick(5) > 0))
	}
	return atomic(kid())
}

func (m *maker) leaf(bound bool) api.Node {
	switch k := m.pick(9); {
	case k == 0:
		return assertion(1 + m.pick(10))
	case k == 1 && !bound && m.groups > 0:
		return back(1 + m.pick(m.groups))
	case k == 2 && !bound:
		return cluster
	case k == 3:
		return seq()
	}
	return set('a'+2*m.pick(3), 'g'+2*m.pick(4))
}

func sameInst(x, y api.Inst) bool {
	return x.Op == y.Op && x.X == y.X && x.Y == y.Y && x.Min == y.Min && x.Max == y.Max && slices.Equal(x.Set, y.Set)
}

func TestManyTrees(t *testing.T) { // P19.1, P19.4
	programs, long, wide := 0, 0, 0
	for seed := range 10000 {
		m := maker{seed: uint32(seed)}
		n := m.tree(1+m.pick(8), false)
		if !lower.Plain(n) {
			t.Fatalf("%v is no tree of sets", n)
		}
		o := api.Options{Fold: m.pick(3), Multi: m.pick(2) > 0}
		p, e := compile.Prog(n, o)
		if want := width.Bound(n); want != api.OK {
			wide++
			if e != want {
				t.Fatalf("%v: %v, want %v", n, e, want)
			}
			continue
		}
		code, marks := written(n)
		if len(code) > api.MaxCode {
			long++
			if e != api.ErrSize {
				t.Fatalf("%v: %v, want %v", n, e, api.ErrSize)
			}
			continue
		}
		programs++
		if e != api.OK || !slices.EqualFunc(p.Code, code, sameInst) || p.Marks != marks || p.Groups != m.groups || p.Options != o || !compile.Can(p) {
			t.Fatalf("%v: %v, %v, want %v", n, p, e, code)
		}
		for i, name := range p.Names {
			if want := fmt.Sprint("n", i); i > 0 && name != want || i == 0 && name != "" {
				t.Fatalf("%v: names %v", n, p.Names)
			}
		}
	}
	if programs < 2000 || long < 20 || wide < 20 {
		t.Errorf("%d programs, %d too long, %d too wide", programs, long, wide)
	}
}
