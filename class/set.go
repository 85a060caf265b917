package class

import (
	"slices"

	"rubricator/api"
	"rubricator/decomp"
	"rubricator/fold"
	"rubricator/props"
	"rubricator/ranges"
)

// maker makes sets by tables and options.
type maker struct {
	t       *props.Tables
	o       api.Options
	singles []int // with Canon: the code points that are another one
}

func newMaker(t *props.Tables, o api.Options) maker {
	m := maker{t: t, o: o}
	if o.Canon {
		m.singles = decomp.Singles(t)
	}
	return m
}

// set is the set of a node that can has let pass.
func (m maker) set(n api.Node) ([]api.Range, api.Errno) {
	switch n.Kind {
	case api.NodeChar:
		return m.widened(span(n.A, n.A)), api.OK
	case api.NodeRange:
		return m.widened(span(n.A, n.B)), api.OK
	case api.NodeProp:
		return m.property(n)
	case api.NodeClass:
		return m.class(n)
	}
	return m.anything(), api.OK
}

// widened is a leaf's set with what folding and canonical equivalence bring.
func (m maker) widened(a []api.Range) []api.Range {
	sets := [][]api.Range{a}
	for _, r := range m.singles {
		if !ranges.Has(a, r) {
			continue
		}
		for _, other := range decomp.Full(m.t, r) {
			sets = append(sets, span(other, other))
		}
	}
	out := join(sets...)
	if m.o.Fold == api.FoldNone {
		return out
	}
	return fold.Closure(m.t, out)
}

func (m maker) property(n api.Node) ([]api.Range, api.Errno) {
	var sets [][]api.Range
	for _, name := range expressions(n.Name) {
		a, e := m.t.Set(name)
		if e != api.OK {
			return nil, e
		}
		sets = append(sets, a)
	}
	return turned(m.widened(join(sets...)), n.Neg), api.OK
}

// expressions is what props is asked for a property of that name. Those of w are the categories by which layer 11, which this one doesn't call, tells words.
func expressions(name string) []string {
	switch name {
	case "d":
		return []string{"gc=Nd"}
	case "w":
		return []string{"gc=L", "gc=M", "gc=Nl", "gc=Nd", "gc=Pc"}
	case "s":
		return []string{"space"}
	}
	return []string{name}
}

func (m maker) class(n api.Node) ([]api.Range, api.Errno) {
	var sets [][]api.Range
	for _, kid := range n.Kids {
		a, e := m.set(kid)
		if e != api.OK {
			return nil, e
		}
		sets = append(sets, a)
	}
	return turned(combined(n.Mode, sets), n.Neg), api.OK
}

// combined is kids' sets as a class's mode says: of Union any number, of the others two.
func combined(mode int, sets [][]api.Range) []api.Range {
	switch mode {
	case api.Meet:
		return ranges.Meet(sets[0], sets[1])
	case api.Minus:
		return ranges.Minus(sets[0], sets[1])
	case api.Xor:
		return ranges.Xor(sets[0], sets[1])
	}
	return join(sets...)
}

// anything is what a dot fits.
func (m maker) anything() []api.Range {
	if m.o.Dot {
		return ranges.Not(nil)
	}
	return ranges.Not(join(span(0xa, 0xa), span(0xd, 0xd), span(0x85, 0x85), span(0x2028, 0x2029)))
}

// turned is a set, or with neg all others.
func turned(a []api.Range, neg bool) []api.Range {
	if neg {
		return ranges.Not(a)
	}
	return a
}

// join is the union of any number of sets, at once, so that many take no longer than their ranges do.
func join(sets ...[]api.Range) []api.Range { return ranges.Make(slices.Concat(sets...)) }

func span(lo, hi int) []api.Range { return []api.Range{{Lo: lo, Hi: hi}} }
