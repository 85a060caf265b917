package class_test

import (
	"slices"
	"testing"

	"rubricator/api"
	"rubricator/class"
	"rubricator/decomp"
	"rubricator/fold"
	"rubricator/props"
	"rubricator/ranges"
	"rubricator/word"
)

// Sets in another way: of each code point it is told on its own whether it is in.

// points is, of each code point, whether it is in.
type points []bool

// set is the ranges of points.
func (p points) set() []api.Range {
	var out []api.Range
	for r, in := range p {
		last := len(out) - 1
		switch {
		case !in:
		case last >= 0 && out[last].Hi == r-1:
			out[last].Hi = r
		default:
			out = append(out, api.Range{Lo: r, Hi: r})
		}
	}
	return out
}

func pointsOf(in func(r int) bool) points {
	out := make(points, api.MaxRune+1)
	for r := range out {
		out[r] = in(r)
	}
	return out
}

// reckoner has what is asked of each code point, asked once.
type reckoner struct {
	x      *props.Tables
	simple []int
	words  points
	bare   map[string]points // of properties
}

func newReckoner() *reckoner {
	k := &reckoner{x: props.Load(), simple: make([]int, api.MaxRune+1), bare: map[string]points{}}
	for r := range k.simple {
		k.simple[r] = fold.Simple(k.x, r)
	}
	k.words = pointsOf(func(r int) bool { return word.Is(k.x, r) })
	return k
}

// leaf is a leaf's code points, ahead of what options bring.
func (k *reckoner) leaf(n api.Node) points {
	switch {
	case n.Kind == api.NodeChar:
		return pointsOf(func(r int) bool { return r == n.A })
	case n.Kind == api.NodeRange:
		return pointsOf(func(r int) bool { return n.A <= r && r <= n.B })
	case n.Name == "w":
		return slices.Clone(k.words)
	case k.bare[n.Name] == nil:
		name := map[string]string{"d": "gc=Nd", "s": "space"}[n.Name]
		if name == "" {
			name = n.Name
		}
		l, _ := k.x.Set(name)
		k.bare[n.Name] = make(points, api.MaxRune+1)
		for _, y := range l {
			for r := y.Lo; r <= y.Hi; r++ {
				k.bare[n.Name][r] = true
			}
		}
	}
	return slices.Clone(k.bare[n.Name])
}

func (k *reckoner) wide(p points, o api.Options) points {
	if o.Canon {
		was := slices.Clone(p)
		for _, r := range decomp.Singles(k.x) {
			if was[r] {
				p[decomp.Full(k.x, r)[0]] = true
			}
		}
	}
	if o.Fold == api.FoldNone {
		return p
	}
	folded := make(points, len(p))
	for r, in := range p {
		folded[k.simple[r]] = folded[k.simple[r]] || in
	}
	return pointsOf(func(r int) bool { return folded[k.simple[r]] })
}

func (k *reckoner) in(n api.Node, o api.Options) points {
	var out points
	turn := n.Neg && (n.Kind == api.NodeProp || n.Kind == api.NodeClass)
	switch n.Kind {
	case api.NodeAny:
		return pointsOf(func(r int) bool {
			return o.Dot || r != 0xa && r != 0xd && r != 0x85 && r != 0x2028 && r != 0x2029
		})
	case api.NodeClass:
		out = k.kids(n, o)
	default:
		out = k.wide(k.leaf(n), o)
	}
	for r := range out {
		out[r] = out[r] != turn
	}
	return out
}

func (k *reckoner) kids(n api.Node, o api.Options) points {
	out := make(points, api.MaxRune+1)
	for i, kid := range n.Kids {
		p := k.in(kid, o)
		for r := range out {
			switch {
			case n.Mode == api.Union || i == 0:
				out[r] = out[r] || p[r]
			case n.Mode == api.Meet:
				out[r] = out[r] && p[r]
			case n.Mode == api.Minus:
				out[r] = out[r] && !p[r]
			case n.Mode == api.Xor:
				out[r] = out[r] != p[r]
			}
		}
	}
	return out
}

// maker makes nodes that hang on a number alone.
type maker struct{ seed uint32 }

func (m *maker) pick(n int) int {
	m.seed = m.seed*1664525 + 1013904223
	return int(m.seed>>16) % n
}

func (m *maker) point() int {
	l := []int{0, 9, 10, '0', 'A', 'K', 'S', 'Z', 'a', 'k', 's', 'z', 0x85, 0xb5, 0xc5, 0xdf, 0xe5, 0xe9, 0x130, 0x17f, 0x1c5, 0x345, 0x391, 0x3a9, 0x3c2, 0x3c9, 0x1e9e, 0x2028, 0x2126, 0x212a, 0x212b, 0xac00, 0xd800, 0xdfff, 0xfb00, 0x1f600, api.MaxRune, -1, api.MaxRune + 1}
	return l[m.pick(len(l))] + m.pick(2)
}

func (m *maker) node(depth int) api.Node {
	n := api.Node{Neg: m.pick(3) == 0}
	switch kind := m.pick(8); {
	case kind < 2:
		n.Kind, n.A = api.NodeChar, m.point()
	case kind < 4:
		n.Kind, n.A, n.B = api.NodeRange, m.point(), m.point()
	case kind == 4:
		names := []string{"d", "w", "s", "gc=Lu", "gc=L", "gc=Cn", "sc=Grek", "sc=Zzzz", "space", "Any", "ASCII", "Alpha", "Lower", "Upper", "L", "Greek", "S"}
		n.Kind, n.Name = api.NodeProp, names[m.pick(len(names))]
	case kind == 5:
		n.Kind = api.NodeAny
	case depth == 0:
		return m.node(depth)
	default:
		n.Kind, n.Mode = api.NodeClass, m.pick(4)
		size := 2
		if n.Mode == api.Union {
			size = m.pick(4)
		}
		for range size {
			n.Kids = append(n.Kids, m.node(depth-1))
		}
	}
	return n
}

func TestManySets(t *testing.T) { // P16.1, P16.3
	k := newReckoner()
	kinds := map[int]int{}
	for i := range 150 {
		m := &maker{seed: uint32(i)}
		n := m.node(i % 4)
		o := api.Options{Canon: m.pick(2) == 0, Dot: m.pick(2) == 0, Multi: m.pick(2) == 0, Fold: m.pick(3)}
		got, e := class.Set(k.x, n, o)
		if want := k.in(n, o).set(); e != api.OK || !slices.Equal(got, want) {
			t.Fatalf("Set(%+v, %+v) = %x, %v, want %x", n, o, got, e, want)
		}
		kinds[n.Kind]++
		complements(t, k.x, union(n), o)
		complements(t, k.x, of(1+m.pick(3), n, m.node(2)), o)
	}
	for _, kind := range []int{api.NodeChar, api.NodeRange, api.NodeProp, api.NodeAny, api.NodeClass} {
		if kinds[kind] < 5 {
			t.Errorf("%d nodes of kind %d", kinds[kind], kind)
		}
	}
}

// complements checks that a class with Neg and without share nothing, and have all.
func complements(t *testing.T, x *props.Tables, n api.Node, o api.Options) {
	t.Helper()
	with, e := class.Set(x, n, o)
	n.Neg = !n.Neg
	without, f := class.Set(x, n, o)
	if e != api.OK || f != api.OK || !ranges.Can(with) || !ranges.Can(without) || len(ranges.Meet(with, without)) > 0 || ranges.Size(with)+ranges.Size(without) != api.MaxRune+1 {
		t.Fatalf("%+v with %+v: %x, %v; turned %x, %v", n, o, with, e, without, f)
	}
}

// textsOf is Texts by going through all code points.
func (k *reckoner) textsOf(a []api.Range, o api.Options) [][]int {
	members := decomp.Members(k.x)
	var out [][]int
	for r := range api.MaxRune + 1 {
		if !ranges.Has(a, r) {
			continue
		}
		if o.Canon && slices.Contains(members, r) {
			out = append(out, decomp.Full(k.x, r))
		}
		if l := fold.Full(k.x, r); o.Fold == api.FoldFull && len(l) > 1 {
			out = append(out, l) // the file has none that NFD would change
		}
	}
	if len(out) > api.MaxMembers {
		return nil
	}
	return out
}

func TestManyTexts(t *testing.T) { // P16.2
	k := newReckoner()
	some := 0
	for i := range 60 {
		m := &maker{seed: uint32(i)}
		var a []api.Range
		for range m.pick(5) {
			lo := m.point()
			a = append(a, api.Range{Lo: lo, Hi: lo + m.pick(100) - 5})
		}
		o := api.Options{Canon: m.pick(2) == 0, Fold: m.pick(3)}
		got := class.Texts(k.x, a, o)
		if want := k.textsOf(a, o); !slices.EqualFunc(got, want, slices.Equal[[]int]) {
			t.Fatalf("Texts(%x, %+v) = %x, want %x", a, o, got, want)
		}
		if len(got) > 0 {
			some++
		}
	}
	if some < 10 {
		t.Errorf("only %d with texts", some)
	}
}
