package parse

import "rubricator/api"

// body is what stands between two brackets, or the whole pattern, as far as it has been read.
type body struct {
	around api.Node   // the node of its brackets
	ahead  []api.Node // the sequences ahead of the last bar
	parts  []api.Node // of the sequence at hand
}

func (b *body) add(n api.Node) { b.parts = append(b.parts, n) }

// bar ends the sequence at hand; the next one takes memory of its own.
func (b *body) bar() {
	b.ahead = append(b.ahead, sequence(b.parts))
	b.parts = nil
}

// repeat puts the last part into a repetition.
func (b *body) repeat(t api.Token) api.Errno {
	if len(b.parts) == 0 {
		return api.ErrMark
	}
	last := b.parts[len(b.parts)-1]
	if !repeatable(last.Kind) {
		return api.ErrRepeat
	}
	b.parts[len(b.parts)-1] = api.Node{Kind: api.NodeRepeat, A: t.A, B: t.B, Mode: t.Mode, Kids: []api.Node{last}}
	return api.OK
}

func repeatable(kind int) bool {
	switch kind {
	case api.NodeRepeat, api.NodeLook, api.NodeAssert:
		return false
	}
	return true
}

// node is the body as a tree has it, its last sequence being the one at hand.
func (b *body) node() api.Node {
	last := sequence(b.parts)
	if len(b.ahead) == 0 {
		return last
	}
	return api.Node{Kind: api.NodeAlt, Kids: append(b.ahead, last)}
}

func sequence(parts []api.Node) api.Node { return api.Node{Kind: api.NodeSeq, Kids: parts} }
