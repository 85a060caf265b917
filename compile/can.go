package compile

import (
	"rubricator/api"
	"rubricator/ranges"
)

const outside = -1 // the block of what stands in none

func canFold(o api.Options) bool { return within(o.Fold, api.FoldNone, api.FoldFull) }

// canHave tells whether a program's numbers may be, and how it ends.
func canHave(p api.Prog) bool {
	if !within(len(p.Code), 1, api.MaxCode) || !within(p.Groups, 0, api.MaxGroups) || !within(p.Marks, 0, api.MaxCode) {
		return false
	}
	return p.Code[len(p.Code)-1].Op == api.OpDone && len(p.Names) == p.Groups+1 && canFold(p.Options)
}

// canStand tells whether an instruction, but for the places that it names, may stand in a program.
func canStand(p api.Prog, i api.Inst) bool {
	switch i.Op {
	case api.OpSet:
		return ranges.Can(i.Set)
	case api.OpSave:
		return within(i.X, 0, 2*p.Groups+1)
	case api.OpAssert:
		return within(i.X, api.AtBegin, api.NoWords)
	case api.OpBack:
		return within(i.X, 1, p.Groups)
	case api.OpLook:
		return within(i.X, api.Ahead, api.NotBehind) && within(i.Min, 0, i.Max) && i.Max <= api.MaxWidth
	case api.OpMark, api.OpCheck:
		return within(i.X, 0, p.Marks-1)
	}
	return within(i.Op, api.OpSet, api.OpDone)
}

// blocks tells of each place in which innermost block it stands, by the place of what begins that; false, if a block may not be.
func blocks(code []api.Inst) ([]int, bool) {
	in := make([]int, len(code))
	var open []int // blocks that go on here, the innermost last
	for at, i := range code {
		for len(open) > 0 && code[last(open)].Y == at {
			open = open[:len(open)-1]
		}
		in[at] = last(open)
		if i.Op != api.OpLook && i.Op != api.OpAtomic {
			continue
		}
		if !canEnd(code, at, last(open)) {
			return nil, false
		}
		open = append(open, at)
	}
	return in, true
}

// last is the innermost of blocks.
func last(open []int) int {
	if len(open) == 0 {
		return outside
	}
	return open[len(open)-1]
}

// canEnd tells whether the block that begins at a place ends as it may: at an OpDone, which is not the program's last one, and not behind the block around it.
func canEnd(code []api.Inst, at, around int) bool {
	end := code[at].Y
	if !within(end, at+2, len(code)-1) || code[end-1].Op != api.OpDone {
		return false
	}
	return around == outside || end <= code[around].Y
}

// staysIn tells whether all places at which an instruction goes on, apart from the next one, stand in its own block.
func staysIn(in []int, at int, i api.Inst) bool {
	same := func(to int) bool { return within(to, 0, len(in)-1) && in[to] == in[at] }
	switch i.Op {
	case api.OpSplit:
		return same(i.X) && same(i.Y)
	case api.OpJump:
		return same(i.X)
	case api.OpCheck:
		return same(i.Y)
	}
	return true
}

func within(n, lo, hi int) bool { return lo <= n && n <= hi }
