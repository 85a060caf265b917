package class

import (
	"cmp"
	"slices"

	"rubricator/api"
	"rubricator/decomp"
	"rubricator/fold"
	"rubricator/lines"
	"rubricator/norm"
	"rubricator/props"
	"rubricator/ranges"
)

// text is several code points, and the one that they stand for.
type text struct {
	of    int
	runes []int
}

// decompositions is what the code points of a set are made of.
func decompositions(t *props.Tables, a []api.Range) []text {
	var out []text
	for _, r := range decomp.Members(t) {
		if ranges.Has(a, r) {
			out = append(out, text{of: r, runes: decomp.Full(t, r)})
		}
	}
	return out
}

// foldings is the full foldings of a set's code points that have several.
func foldings(t *props.Tables, a []api.Range, canon bool) []text {
	var out []text
	for _, r := range foldable(a) {
		l := fold.Full(t, r)
		switch {
		case len(l) < 2:
			continue
		case canon:
			l = norm.Runes(t, l)
		}
		out = append(out, text{of: r, runes: l})
	}
	return out
}

// foldable is the code points of a set of which the file tells: to ask the tables of all of the set's would take far longer.
func foldable(a []api.Range) []int {
	l, _, _ := lines.Parse(api.Folding()) // no line of a pinned file can be wrong
	var told []api.Range
	for _, x := range l {
		told = append(told, api.Range{Lo: x.Lo, Hi: x.Hi})
	}
	var out []int
	for _, x := range ranges.Meet(a, told) {
		for r := x.Lo; r <= x.Hi; r++ {
			out = append(out, r)
		}
	}
	return out
}

// rising is the texts by their code points; of one code point, those that stood ahead stay ahead.
func rising(l []text) [][]int {
	slices.SortStableFunc(l, func(a, b text) int { return cmp.Compare(a.of, b.of) })
	var out [][]int
	for _, x := range l {
		out = append(out, x.runes)
	}
	return out
}
