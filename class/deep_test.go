package class_test

import (
	"testing"

	"rubricator/api"
	"rubricator/class"
	"rubricator/props"
)

func TestDeepAndWideClasses(t *testing.T) { // P16.1, by the rule Ends: as many parts within one another as the document speaks of, and long lists
	x := props.Load()
	deep, sides, wrong := char('a'), union(char('a')), api.Node{Kind: api.NodeSeq}
	for range 1<<16 - 2 {
		deep, wrong = not(union(deep)), union(wrong)
		sides = of(api.Xor, sides, char('b'))
	}
	wide := api.Node{Kind: api.NodeClass}
	for i := range 20000 {
		wide.Kids = append(wide.Kids, char(2*i))
	}
	check(t, []want{
		{deep, plain, pairs('a', 'a')}, {sides, plain, pairs('a', 'a')},
		{of(api.Meet, wide, span('h', 'm')), plain, pairs('h', 'h', 'j', 'j', 'l', 'l')},
		{of(api.Meet, wide, span('h', 'm')), every, pairs('H', 'H', 'J', 'L', 'h', 'h', 'j', 'l', 0x212a, 0x212a)}, // 212a brings k
	})
	if _, e := class.Set(x, wrong, every); e != api.ErrArg {
		t.Errorf("what is wrong far within: %v", e)
	}
}
