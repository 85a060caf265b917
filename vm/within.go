package vm

import "rubricator/api"

// inner is a run within: of a look, or of what is taken at once.
type inner struct {
	pc    int // of the instruction that began it
	at    int // where that one stands
	ahead int // how many code points ahead of there the run began
	floor int // how many entries were on the stack
}

func looksBehind(i *api.Inst) bool {
	return i.Op == api.OpLook && (i.X == api.Behind || i.X == api.NotBehind)
}

func denies(i *api.Inst) bool {
	return i.Op == api.OpLook && (i.X == api.NotAhead || i.X == api.NotBehind)
}

// floor is how many entries there are that the innermost run may not take off.
func (r *run) floor() int {
	if len(r.within) == 0 {
		return 0
	}
	return r.within[len(r.within)-1].floor
}

// begin begins a run within.
func (r *run) begin(i *api.Inst) outcome {
	in := inner{pc: r.pc, at: r.at, floor: len(r.stack)}
	if looksBehind(i) {
		in.ahead = i.Min
	}
	return r.from(in)
}

// from goes into a run within, or, if it would begin ahead of all code points, past it.
func (r *run) from(in inner) outcome {
	if in.ahead > in.at {
		return r.pass(in)
	}
	r.within = append(r.within, in)
	r.at = in.at - in.ahead
	return r.goTo(in.pc + 1)
}

// pass is behind a run within that has not come to its end.
func (r *run) pass(in inner) outcome {
	i := &r.code[in.pc]
	if !denies(i) {
		return backward
	}
	r.at = in.at
	return r.goTo(i.Y)
}

// popped is the innermost run, which is one no more.
func (r *run) popped() inner {
	last := len(r.within) - 1
	in := r.within[last]
	r.within = r.within[:last]
	return in
}

// tryOn is behind the innermost run that can't go on: a look behind begins anew further ahead.
func (r *run) tryOn() outcome {
	in := r.popped()
	if i := &r.code[in.pc]; !looksBehind(i) || in.ahead == i.Max {
		return r.pass(in)
	}
	in.ahead++
	return r.from(in)
}

// done is at the end of the innermost run, or of the whole.
func (r *run) done() outcome {
	if len(r.within) == 0 {
		return came
	}
	in := r.within[len(r.within)-1]
	i := &r.code[in.pc]
	if looksBehind(i) && r.at != in.at {
		return backward
	}
	r.popped()
	if denies(i) {
		r.takeAll(in.floor)
		return backward
	}
	r.takeWays(in.floor)
	if i.Op == api.OpLook {
		r.at = in.at
	}
	return r.goTo(i.Y)
}
