package vm

import (
	"rubricator/api"
	"rubricator/props"
)

const none = -1 // the place of a group, or a mark, that has none

// run is a run: where it is, what it has kept, and how it may go back.
type run struct {
	t      *props.Tables
	code   []api.Inst
	how    api.Options
	l      []int
	most   api.Budget
	steps  int
	pc, at int
	places []int // of the groups, two each, and behind them the marks
	groups int   // how many of places are groups'
	stack  []entry
	within []inner // the innermost last
}

// outcome is how an instruction ends.
type outcome int

const (
	onward   outcome = iota // the run's places say where
	backward                // it can't be
	over                    // the stack has no room
	came                    // the whole has come to its end
)

func newRun(t *props.Tables, p api.Prog, l []int, at int, b api.Budget) *run {
	groups := 2*p.Groups + 2
	r := &run{t: t, code: p.Code, how: p.Options, l: l, at: at, groups: groups}
	r.most = api.Budget{Steps: bounded(b.Steps), Depth: bounded(b.Depth)}
	r.places = make([]int, groups+p.Marks)
	for i := range r.places {
		r.places[i] = none
	}
	return r
}

func bounded(n int) int { return min(max(n, 0), api.MaxBudget) }

// whole goes from step to step, and back where it can't go on, up to the end; it tells the result's kind.
func (r *run) whole() int {
step:
	if r.steps == r.most.Steps {
		return api.Exceeded
	}
	r.steps++
	switch r.do(&r.code[r.pc]) {
	case onward:
		goto step
	case over:
		return api.Exceeded
	case came:
		return api.Match
	}
back:
	for len(r.stack) > r.floor() {
		if r.takeOff() {
			goto step
		}
	}
	if len(r.within) == 0 {
		return api.NoMatch
	}
	if r.tryOn() == onward {
		goto step
	}
	goto back
}

// do takes an instruction.
func (r *run) do(i *api.Inst) outcome {
	switch i.Op {
	case api.OpSet:
		return r.item(i.Set)
	case api.OpSplit:
		return r.lay(way{pc: i.Y, at: r.at}, i.X)
	case api.OpJump:
		return r.goTo(i.X)
	case api.OpSave:
		return r.keep(i.X)
	case api.OpMark:
		return r.keep(r.groups + i.X)
	case api.OpCheck:
		return r.check(i)
	case api.OpAssert:
		return r.next(r.holds(i.X), r.at)
	case api.OpCluster:
		return r.cluster()
	case api.OpBack:
		return r.again(i.X)
	case api.OpLook, api.OpAtomic:
		return r.begin(i)
	}
	return r.done()
}

// goTo goes on at another instruction.
func (r *run) goTo(pc int) outcome {
	r.pc = pc
	return onward
}

// next goes on with the next instruction, at a place, if it can.
func (r *run) next(can bool, at int) outcome {
	if !can {
		return backward
	}
	r.at = at
	return r.goTo(r.pc + 1)
}

// lay lays an entry onto the stack, and goes on at an instruction.
func (r *run) lay(e entry, pc int) outcome {
	if len(r.stack) >= r.most.Depth {
		return over
	}
	r.stack = append(r.stack, e)
	return r.goTo(pc)
}

// keep makes a group's place, or a mark, this one.
func (r *run) keep(i int) outcome {
	out := r.lay(was{i: i, place: r.places[i]}, r.pc+1)
	if out == onward {
		r.places[i] = r.at
	}
	return out
}

func (r *run) check(i *api.Inst) outcome {
	if r.places[r.groups+i.X] == r.at {
		return r.goTo(i.Y)
	}
	return r.goTo(r.pc + 1)
}
