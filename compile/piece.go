package compile

import "rubricator/api"

// piece is what a part of a tree becomes. Its places, and its marks, are counted from its own beginning, so that it may stand anywhere, and several times.
type piece struct {
	code  []api.Inst
	marks int
}

// one is a piece of a single instruction.
func one(i api.Inst) piece { return piece{code: []api.Inst{i}} }

// put adds instructions whose places and marks are the piece's already.
func (p *piece) put(l ...api.Inst) { p.code = append(p.code, l...) }

// add lays another piece behind this one.
func (p *piece) add(next piece) {
	places, marks := len(p.code), p.marks
	for _, i := range next.code {
		p.put(moved(i, places, marks))
	}
	p.marks += next.marks
}

// moved is an instruction so many places, and marks, further on.
func moved(i api.Inst, places, marks int) api.Inst {
	switch i.Op {
	case api.OpSplit:
		i.X += places
		i.Y += places
	case api.OpJump:
		i.X += places
	case api.OpMark:
		i.X += marks
	case api.OpCheck:
		i.X += marks
		i.Y += places
	case api.OpLook, api.OpAtomic:
		i.Y += places
	}
	return i
}

// row is pieces one behind the other.
func row(l ...piece) piece {
	var out piece
	for _, p := range l {
		out.add(p)
	}
	return out
}

// choice is pieces of which the first that fits is taken.
func choice(l []piece) piece {
	last := len(l) - 1
	end := 2 * last
	for _, p := range l {
		end += len(p.code)
	}
	var out piece
	for _, p := range l[:last] {
		here := len(out.code)
		out.put(api.Inst{Op: api.OpSplit, X: here + 1, Y: here + len(p.code) + 2})
		out.add(p)
		out.put(api.Inst{Op: api.OpJump, X: end})
	}
	out.add(l[last])
	return out
}

// saved is a group that keeps its places.
func saved(number int, kid piece) piece {
	return row(one(api.Inst{Op: api.OpSave, X: 2 * number}), kid, one(api.Inst{Op: api.OpSave, X: 2*number + 1}))
}

// block is what is run within: behind i, which gets to know where it ends.
func block(i api.Inst, kid piece) piece {
	i.Y = len(kid.code) + 2
	return row(one(i), kid, one(api.Inst{Op: api.OpDone}))
}

// repeated is a kid so often as a repetition says.
func repeated(n api.Node, kid piece) piece {
	if n.Mode == api.Possessive {
		n.Mode = api.Greedy
		return block(api.Inst{Op: api.OpAtomic}, repeated(n, kid))
	}
	var out piece
	for range n.A {
		out.add(kid)
	}
	if n.B == unbounded {
		out.add(loop(n.Mode, kid))
		return out
	}
	end := n.A*len(kid.code) + (n.B-n.A)*(len(kid.code)+1)
	for range n.B - n.A {
		out.put(split(n.Mode, len(out.code)+1, end))
		out.add(kid)
	}
	return out
}

// loop is a kid any number of times. Its mark is there so that a kid that takes nothing isn't gone through for ever.
func loop(mode int, kid piece) piece {
	end := len(kid.code) + 4
	out := piece{marks: 1}
	out.put(split(mode, 1, end), api.Inst{Op: api.OpMark})
	out.add(kid)
	out.put(api.Inst{Op: api.OpCheck, Y: end}, api.Inst{Op: api.OpJump})
	return out
}

// split goes on first, or, if it is lazy, ends first.
func split(mode, on, end int) api.Inst {
	if mode == api.Lazy {
		return api.Inst{Op: api.OpSplit, X: end, Y: on}
	}
	return api.Inst{Op: api.OpSplit, X: on, Y: end}
}
