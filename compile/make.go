package compile

import (
	"slices"

	"rubricator/api"
	"rubricator/walk"
	"rubricator/width"
)

const (
	unbounded = -1              // the greatest number of a repetition that may go on
	room      = api.MaxCode - 3 // instructions, beside those that keep the whole's places, and the end
)

// maker knows how many instructions stand in the pieces made so far that no other piece has taken up. The program has all of them, so nothing more need be made as soon as they are too many: repetitions within one another would become longer than any memory.
type maker struct{ laid int }

// made is the code of a whole tree; false, if it is too long.
func made(n api.Node) (piece, bool) {
	var m maker
	body := walk.Up(n, m.enters, m.join)
	if m.full() {
		return piece{}, false
	}
	out := saved(0, body)
	out.put(api.Inst{Op: api.OpDone})
	for at := range out.code {
		out.code[at].Set = own(out.code[at].Set)
	}
	return out, true
}

// own is a list that shares no memory: copies of a piece have one set in common, which is the tree's.
func own(set []api.Range) []api.Range {
	if len(set) == 0 {
		return nil
	}
	return slices.Clone(set)
}

func (m *maker) full() bool { return m.laid > room }

// enters leaves out what is repeated no times: it is no part of the program.
func (m *maker) enters(n api.Node, _ int) bool {
	return !m.full() && hasKids(n.Kind) && !(n.Kind == api.NodeRepeat && n.B == 0)
}

func (m *maker) join(n api.Node, kids []piece) piece {
	if m.full() {
		return piece{}
	}
	out := pieceOf(n, kids)
	m.laid += len(out.code)
	for _, kid := range kids {
		m.laid -= len(kid.code)
	}
	return out
}

// pieceOf is what a node becomes whose kids become these.
func pieceOf(n api.Node, kids []piece) piece {
	switch n.Kind {
	case api.NodeSet:
		return one(api.Inst{Op: api.OpSet, Set: n.Set})
	case api.NodeAlt:
		return choice(kids)
	case api.NodeRepeat:
		return repeated(n, row(kids...))
	case api.NodeLook:
		return block(lookOf(n), row(kids...))
	case api.NodeAtomic:
		return block(api.Inst{Op: api.OpAtomic}, row(kids...))
	case api.NodeAssert:
		return one(api.Inst{Op: api.OpAssert, X: n.Mode})
	case api.NodeBack:
		return one(api.Inst{Op: api.OpBack, X: n.A})
	case api.NodeCluster:
		return one(api.Inst{Op: api.OpCluster})
	}
	if n.Kind == api.NodeGroup && n.A > 0 {
		return saved(n.A, row(kids...))
	}
	return row(kids...)
}

func lookOf(n api.Node) api.Inst {
	i := api.Inst{Op: api.OpLook, X: n.Mode}
	if looksBehind(i) {
		i.Min, i.Max = width.Of(n.Kids[0])
	}
	return i
}

func looksBehind(i api.Inst) bool {
	return i.Op == api.OpLook && (i.X == api.Behind || i.X == api.NotBehind)
}
