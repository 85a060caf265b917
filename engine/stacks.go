package engine

const (
	mostFree = 4    // stacks that stand free at a time
	mostRoom = 1000 // what a free stack has room for: one great subject is no reason to keep as much for ever
)

// stacks is those that are free: a call that needs one takes it out, so that no two calls have the same.
type stacks[T any] chan []T

func newStacks[T any]() stacks[T] { return make(stacks[T], mostFree) }

// take is an empty stack.
func (s stacks[T]) take() []T {
	select {
	case l := <-s:
		return l
	default:
		return nil
	}
}

// give leaves a stack to later calls, if there is room for it. What it held is wiped out: an answer may be told of there.
func (s stacks[T]) give(l []T) {
	if cap(l) > mostRoom {
		return
	}
	clear(l[:cap(l)])
	select {
	case s <- l[:0]:
	default:
	}
}
