package width

import "rubricator/api"

const (
	boundless = -1      // as a greatest number, of items and of repetitions
	ceiling   = 1 << 30 // what greater numbers count as
)

// amount is how many items, at least and at most. Its numbers are not above the ceiling, so that a sum or a product of two of them is an int.
type amount struct{ least, most int }

// taken is what a node takes whose kids take that.
func taken(n api.Node, kids []amount) amount {
	switch n.Kind {
	case api.NodeSet:
		return amount{1, 1}
	case api.NodeSeq:
		return together(kids)
	case api.NodeAlt:
		return either(kids)
	case api.NodeRepeat:
		return only(kids).times(n.A, n.B)
	case api.NodeGroup, api.NodeAtomic:
		return only(kids)
	case api.NodeBack:
		return amount{0, boundless}
	case api.NodeCluster:
		return amount{1, boundless}
	}
	return amount{}
}

// only is what the kid takes of a node that should have one.
func only(kids []amount) amount {
	if len(kids) == 0 {
		return amount{}
	}
	return kids[0]
}

func together(l []amount) amount {
	var out amount
	for _, a := range l {
		out.least = min(out.least+a.least, ceiling)
		if out.most == boundless || a.most == boundless {
			out.most = boundless
			continue
		}
		out.most = min(out.most+a.most, ceiling)
	}
	return out
}

func either(l []amount) amount {
	out := only(l)
	for _, a := range l {
		out.least = min(out.least, a.least)
		if out.most == boundless || a.most == boundless {
			out.most = boundless
			continue
		}
		out.most = max(out.most, a.most)
	}
	return out
}

// times is what is taken from least to most times. Nothing, however often, and anything, no times, is nothing, even if there is no bound.
func (a amount) times(least, most int) amount {
	out := amount{least: product(a.least, least)}
	switch {
	case a.most == 0 || most == 0 || most < boundless:
		out.most = 0
	case a.most == boundless || most == boundless:
		out.most = boundless
	default:
		out.most = product(a.most, most)
	}
	return out
}

// product is so many items so often; of times below 0 none.
func product(items, times int) int {
	return min(items*min(max(times, 0), ceiling), ceiling)
}

// fits tells whether it may stand behind.
func (a amount) fits() bool { return a.most != boundless && a.most <= api.MaxWidth }
