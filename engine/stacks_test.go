package engine

import (
	"testing"

	"rubricator/api"
	"rubricator/props"
)

func TestStacks(t *testing.T) {
	free := newStacks[int]()
	if l := free.take(); l != nil {
		t.Errorf("a stack that nobody gave: %v", l)
	}
	free.give(append(make([]int, 0, 10), 1, 2, 3))
	l := free.take()
	if len(l) != 0 || cap(l) != 10 {
		t.Fatalf("%d, room for %d: the stack is not empty, or another one", len(l), cap(l))
	}
	for _, v := range l[:cap(l)] {
		if v != 0 {
			t.Errorf("a stack still holds %d", v)
		}
	}
	if other := free.take(); other != nil {
		t.Error("one stack is taken twice")
	}
}

func TestFewStacksAreKept(t *testing.T) {
	free := newStacks[int]()
	for range 10 * mostFree {
		free.give(make([]int, 1))
	}
	if len(free) != mostFree {
		t.Errorf("%d stacks are free, want %d", len(free), mostFree)
	}
	free = newStacks[int]()
	free.give(make([]int, mostRoom+1))
	if free.take() != nil {
		t.Error("a great stack is kept")
	}
	free.give(make([]int, mostRoom))
	if free.take() == nil {
		t.Error("a stack that is not great is not kept")
	}
}

func TestStacksAreFreeAgain(t *testing.T) {
	e, f := Compile(props.Load(), []byte("(a)|,"), api.Options{})
	if f.Code != api.OK {
		t.Fatal(f)
	}
	for range 3 {
		e.Tree()
		e.Split([]byte("x,y"), -1, api.Budget{Steps: 100, Depth: 100})
		if len(e.nodes) != 1 || len(e.spans) != 1 {
			t.Errorf("%d and %d stacks are free, want one of each", len(e.nodes), len(e.spans))
		}
	}
}
