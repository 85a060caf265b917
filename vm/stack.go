package vm

// entry is what lies on the stack: what is to be undone, or done instead, on the way back.
type entry interface {
	undo(r *run)
	goesOn() bool // is there a way from there
}

// way is where a run goes on, instead.
type way struct{ pc, at int }

func (w way) undo(r *run) { r.pc, r.at = w.pc, w.at }

func (w way) goesOn() bool { return true }

// was is a group's place, or a mark, as it was.
type was struct{ i, place int }

func (w was) undo(r *run) { r.places[w.i] = w.place }

func (w was) goesOn() bool { return false }

// takeOff takes an entry off the stack, and tells whether there is a way from there.
func (r *run) takeOff() bool {
	last := len(r.stack) - 1
	e := r.stack[last]
	r.stack = r.stack[:last]
	e.undo(r)
	return e.goesOn()
}

// takeAll takes off all entries from floor on. Where ways among them lead plays no part: who takes all goes back.
func (r *run) takeAll(floor int) {
	for len(r.stack) > floor {
		r.takeOff()
	}
}

// takeWays takes the ways out from floor on: what was stays, for those who go back further.
func (r *run) takeWays(floor int) {
	kept := r.stack[floor:floor:len(r.stack)] // fills the room of those that are taken out
	for _, e := range r.stack[floor:] {
		if !e.goesOn() {
			kept = append(kept, e)
		}
	}
	r.stack = r.stack[:floor+len(kept)]
}
