package compile

import (
	"slices"

	"rubricator/api"
	"rubricator/walk"
)

// groups is what a tree says of groups.
type groups struct {
	most, back int // the greatest number of a group, and of a group that is asked for once more
	twice      bool
	there      [api.MaxGroups + 1]bool
	names      [api.MaxGroups + 1]string
}

// groupsOf goes through a tree of sets.
func groupsOf(n api.Node) groups {
	var g groups
	walk.Up(n, func(n api.Node, _ int) bool {
		g.meet(n)
		return hasKids(n.Kind)
	}, func(api.Node, []struct{}) struct{} { return struct{}{} })
	return g
}

func (g *groups) meet(n api.Node) {
	switch {
	case n.Kind == api.NodeBack:
		g.back = max(g.back, n.A)
	case n.Kind == api.NodeGroup && n.A > 0:
		g.twice = g.twice || g.there[n.A]
		g.there[n.A], g.names[n.A] = true, n.Name
		g.most = max(g.most, n.A)
	}
}

// list is the names of the groups by their numbers, the whole's ahead of them, which has none.
func (g *groups) list() []string {
	return slices.Clone(g.names[:g.most+1])
}

// hasKids tells whether the kids of nodes of that kind play a part.
func hasKids(kind int) bool {
	switch kind {
	case api.NodeSeq, api.NodeAlt, api.NodeRepeat, api.NodeGroup, api.NodeLook, api.NodeAtomic:
		return true
	}
	return false
}
