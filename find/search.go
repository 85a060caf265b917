package find

import (
	"rubricator/api"
	"rubricator/compile"
	"rubricator/items"
	"rubricator/props"
	"rubricator/vm"
)

// search is what all runs of a call share: the subject tells its code points anew each time, which is dear.
type search struct {
	tables *props.Tables
	prog   api.Prog
	text   *items.Text
	runes  []int
	budget api.Budget
}

func newSearch(t *props.Tables, p api.Prog, x *items.Text, b api.Budget) (*search, api.Errno) {
	switch {
	case !madeTables(t) || !madeText(x):
		return nil, api.ErrNil
	case !compile.Can(p):
		return nil, api.ErrArg
	}
	return &search{tables: t, prog: p, text: x, runes: x.Runes(), budget: b}, api.OK
}

// madeTables tells whether a call made the tables: in such ones each number has a category.
func madeTables(t *props.Tables) bool { return t.Category(0) != "" }

// madeText tells whether a call made the subject: all that others tell is zero, even where there is no span.
func madeText(x *items.Text) bool { return x.Span(-1, -1) != api.Span{} }

// first is what the first run from a place on comes to that is no NoMatch, with the steps of all.
func (s *search) first(from int) api.Result {
	var out api.Result
	steps := 0
	for at := from; at <= len(s.runes); at++ {
		out = vm.Run(s.tables, s.prog, s.runes, at, s.budget)
		steps += out.Steps
		if out.Kind != api.NoMatch {
			break
		}
	}
	out.Steps = steps
	return out
}

// each tells the matches one by one, and an Exceeded behind them, if it comes to that.
func (s *search) each(yield func(api.Result) bool) {
	for from := 0; from <= len(s.runes); {
		r := s.first(from)
		if r.Kind == api.NoMatch || !yield(r) || r.Kind == api.Exceeded {
			return
		}
		// A program made by hand may tell an end ahead of where it was run, and would be run there for ever.
		from = max(s.behind(r), from+1)
	}
}

// behind is from where on the match that follows another one is looked for: no item from there on has bytes of that one.
func (s *search) behind(r api.Result) int {
	places := placesOf(r.Caps)
	end, bytes := places[1], span(s.text, places)
	if bytes.Start == bytes.End { // it has no item
		return max(end+1, s.text.After(bytes.End+1))
	}
	return max(end, s.text.After(bytes.End))
}

// placesOf is the first two of places: where something begins and ends.
func placesOf(l []int) [2]int {
	var out [2]int
	copy(out[:], l)
	return out
}

func span(x *items.Text, places [2]int) api.Span { return x.Span(places[0], places[1]) }
