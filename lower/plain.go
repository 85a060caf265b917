package lower

import "rubricator/api"

const (
	mostAbove = 400 // nodes, above any
	unbounded = -1  // the greatest number of a repetition that may go on
)

// hasKids tells whether the kids of nodes of that kind play a part.
func hasKids(kind int) bool {
	switch kind {
	case api.NodeSeq, api.NodeAlt, api.NodeRepeat, api.NodeGroup, api.NodeLook, api.NodeAtomic:
		return true
	}
	return false
}

// canStand tells whether a node, apart from its kids' own fields, may stand in a tree of sets.
func canStand(n api.Node) bool {
	switch n.Kind {
	case api.NodeSet:
		return isSet(n.Set)
	case api.NodeSeq, api.NodeCluster:
		return true
	case api.NodeAlt:
		return len(n.Kids) > 0
	case api.NodeRepeat:
		return canRepeat(n) && len(n.Kids) == 1
	case api.NodeGroup:
		return within(n.A, 0, api.MaxGroups) && len(n.Kids) == 1
	case api.NodeLook:
		return within(n.Mode, api.Ahead, api.NotBehind) && len(n.Kids) == 1
	case api.NodeAtomic:
		return len(n.Kids) == 1
	case api.NodeAssert:
		return within(n.Mode, api.AtBegin, api.NoWords)
	case api.NodeBack:
		return within(n.A, 1, api.MaxGroups)
	}
	return false
}

func canRepeat(n api.Node) bool {
	return within(n.Mode, api.Greedy, api.Possessive) && within(n.A, 0, api.MaxRepeat) &&
		(n.B == unbounded || within(n.B, n.A, api.MaxRepeat))
}

// isSet tells whether a list is a set as layer 3, which this one doesn't call, has it: ranges of code points that rise and don't touch.
func isSet(l []api.Range) bool {
	free := 0 // the least code point at which the next range may begin
	for _, x := range l {
		if x.Lo < free || x.Lo > x.Hi || x.Hi > api.MaxRune {
			return false
		}
		free = x.Hi + 2
	}
	return true
}

func within(n, lo, hi int) bool { return lo <= n && n <= hi }
