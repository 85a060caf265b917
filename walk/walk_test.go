package walk_test

import (
	"fmt"
	"strings"
	"testing"

	"rubricator/api"
	"rubricator/walk"
)

func node(name string, kids ...api.Node) api.Node { return api.Node{Name: name, Kids: kids} }

func everywhere(api.Node, int) bool { return true }

func TestUp(t *testing.T) {
	n := node("a", node("b", node("c")), node("d"), node("e", node("f"), node("g", node("h"))))
	var down []string
	got := walk.Up(n, func(n api.Node, above int) bool {
		down = append(down, fmt.Sprint(n.Name, above))
		return n.Name != "g"
	}, func(n api.Node, kids []string) string { return n.Name + "(" + strings.Join(kids, " ") + ")" })
	if want := "a(b(c()) d() e(f() g()))"; got != want {
		t.Errorf("%s, want %s", got, want)
	}
	if want := "a0 b1 c2 d1 e1 f2 g2"; strings.Join(down, " ") != want {
		t.Errorf("on the way down %s, want %s", down, want)
	}
}

func TestOfOtherTypes(t *testing.T) {
	n := node("", node("", node(""), node("")), node(""))
	count := func(_ api.Node, kids []int) int {
		sum := 1
		for _, k := range kids {
			sum += k
		}
		return sum
	}
	if got := walk.Up(n, everywhere, count); got != 5 {
		t.Errorf("%d nodes, want 5", got)
	}
	if got := walk.Up(n, func(_ api.Node, above int) bool { return above < 1 }, count); got != 3 {
		t.Errorf("%d nodes down to the second, want 3", got)
	}
	copied := walk.Up(n, everywhere, func(n api.Node, kids []api.Node) api.Node {
		n.Kids = kids
		return n
	})
	if fmt.Sprint(copied) != fmt.Sprint(n) || &copied.Kids[0] == &n.Kids[0] {
		t.Errorf("%v, want another %v", copied, n)
	}
}

func TestListsOfTheirOwn(t *testing.T) {
	n := node("a", node("b", node("c"), node("d"), node("e")), node("f", node("g"), node("h"), node("i")), node("j"))
	var lists [][]int
	walk.Up(n, everywhere, func(_ api.Node, kids []int) int {
		lists = append(lists, kids)
		return len(lists)
	})
	was := fmt.Sprint(lists)
	for _, l := range lists {
		l = l[:cap(l)]
		for i := range l {
			l[i] = -l[i]
		}
	}
	for _, l := range lists { // had two of them shared memory, what both have would be turned twice
		for i := range l {
			l[i] = -l[i]
		}
	}
	if fmt.Sprint(lists) != was {
		t.Errorf("%v became %v", was, lists)
	}
}

func TestDeepOnes(t *testing.T) {
	n := node("")
	for range 1 << 16 {
		n = node("", n)
	}
	deepest := 0
	walk.Up(n, func(_ api.Node, above int) bool {
		deepest = max(deepest, above)
		return true
	}, func(api.Node, []bool) bool { return true })
	if deepest != 1<<16 {
		t.Errorf("down to %d", deepest)
	}
}
