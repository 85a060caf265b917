package vm

import (
	"rubricator/api"
	"rubricator/cluster"
	"rubricator/fold"
	"rubricator/ranges"
	"rubricator/word"
)

// item goes behind a code point that is in a set.
func (r *run) item(set []api.Range) outcome {
	return r.next(r.at < len(r.l) && ranges.Has(set, r.l[r.at]), r.at+1)
}

func (r *run) cluster() outcome {
	return r.next(r.at < len(r.l), cluster.Next(r.t, r.l, r.at))
}

// again goes behind what is the same as a group's text.
func (r *run) again(group int) outcome {
	from, to := r.places[2*group], r.places[2*group+1]
	if from == none || to < from || to-from > len(r.l)-r.at {
		return backward
	}
	for i, a := range r.l[from:to] {
		if !r.same(a, r.l[r.at+i]) {
			return backward
		}
	}
	return r.next(true, r.at+to-from)
}

func (r *run) same(a, b int) bool {
	return a == b || r.how.Fold != api.FoldNone && fold.Same(r.t, a, b)
}

// holds tells whether an assertion is so here.
func (r *run) holds(mode int) bool {
	switch mode {
	case api.AtBegin:
		return r.at == 0 || r.how.Multi && r.lineEnds(r.at-1) && !r.inLineEnd()
	case api.AtEnd:
		return r.at == len(r.l) || r.how.Multi && r.lineEnds(r.at) && !r.inLineEnd()
	case api.TextBegin:
		return r.at == 0
	case api.TextEnd:
		return r.at == len(r.l)
	case api.WordEdge:
		return word.Simple(r.t, r.l, r.at)
	case api.NoWordEdge:
		return !word.Simple(r.t, r.l, r.at)
	case api.Cluster:
		return cluster.Edge(r.t, r.l, r.at)
	case api.NoCluster:
		return !cluster.Edge(r.t, r.l, r.at)
	case api.Words:
		return word.Edge(r.t, r.l, r.at)
	}
	return !word.Edge(r.t, r.l, r.at)
}

// lineEnds tells whether a line end stands behind a place.
func (r *run) lineEnds(at int) bool {
	switch r.l[at] {
	case 0xa, 0xd, 0x85, 0x2028, 0x2029:
		return true
	}
	return false
}

// inLineEnd tells whether this place stands within a line end of two code points.
func (r *run) inLineEnd() bool {
	return r.at > 0 && r.at < len(r.l) && r.l[r.at-1] == 0xd && r.l[r.at] == 0xa
}
