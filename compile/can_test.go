package compile_test

import (
	"math"
	"slices"
	"testing"

	"rubricator/api"
	"rubricator/compile"
)

func inst(op, x, y int) api.Inst { return api.Inst{Op: op, X: x, Y: y} }

var done = inst(api.OpDone, 0, 0)

// prog is a program of three groups and four marks.
func prog(code ...api.Inst) api.Prog {
	return api.Prog{Code: code, Groups: 3, Marks: 4, Names: make([]string, 4)}
}

func can(t *testing.T, what string, p api.Prog, want bool) {
	t.Helper()
	if compile.Can(p) != want {
		t.Errorf("%s: Can(%v) is not %v", what, p, want)
	}
	if need := compile.Need(p, 1); want != (need.Steps > 0 && need.Depth > 0) || !want && need != (api.Budget{}) {
		t.Errorf("%s: Need(%v) = %v", what, p, need)
	}
}

// ahead is a program with an instruction ahead of two others and the end.
func ahead(i api.Inst) api.Prog {
	return prog(i, inst(api.OpCluster, 0, 0), inst(api.OpCluster, 0, 0), done)
}

func TestNumbers(t *testing.T) { // P19.2
	ok := prog(done)
	can(t, "the end alone", ok, true)
	can(t, "zero", api.Prog{}, false)
	can(t, "nothing but a name", api.Prog{Names: []string{""}}, false)
	can(t, "an end and a name", api.Prog{Code: []api.Inst{done}, Names: []string{"any"}}, true)
	can(t, "no end", prog(inst(api.OpCluster, 0, 0)), false)
	can(t, "an end ahead alone", prog(done, inst(api.OpCluster, 0, 0)), false)
	can(t, "ends ahead", prog(done, done, done), true)
	for _, n := range []int{1, 2, 4999, 5000, 5001, 6000} {
		can(t, "many instructions", prog(slices.Repeat([]api.Inst{done}, n)...), n <= api.MaxCode)
	}
	for _, groups := range []int{-1, 0, 1, 2, 3, 20, 21, math.MinInt, math.MaxInt, math.MaxInt / 2} {
		for _, names := range []int{0, 1, 2, 3, 4, 5, 20, 21, 22} {
			p := ok
			p.Groups, p.Names = groups, make([]string, names)
			can(t, "groups and names", p, groups >= 0 && groups <= api.MaxGroups && names == groups+1)
		}
	}
	for _, marks := range []int{-1, 0, 1, 4999, 5000, 5001, math.MinInt, math.MaxInt} {
		p := ok
		p.Marks = marks
		can(t, "marks", p, marks >= 0 && marks <= api.MaxCode)
	}
	for _, fold := range []int{-1, 0, 1, 2, 3, math.MinInt, math.MaxInt} {
		for _, flag := range []bool{false, true} {
			p := ok
			p.Options = api.Options{Fold: fold, Canon: flag, Dot: flag, Multi: flag}
			can(t, "folding", p, fold >= 0 && fold <= 2)
		}
	}
}

func TestFields(t *testing.T) { // P19.2
	numbers := []int{math.MinInt, -2, -1, 0, 1, 2, 3, 4, 5, 6, 7, 8, 9, 10, 11, 12, 13, 20, 41, 42, 50, 51, 5000, math.MaxInt}
	for _, n := range numbers {
		if n < 1 || n > 12 {
			can(t, "an operation", ahead(inst(n, 0, 0)), false)
		}
		in := func(lo, hi int) bool { return lo <= n && n <= hi }
		can(t, "OpSave", ahead(inst(api.OpSave, n, -9)), in(0, 7))
		can(t, "OpBack", ahead(inst(api.OpBack, n, -9)), in(1, 3))
		can(t, "OpMark", ahead(inst(api.OpMark, n, -9)), in(0, 3))
		can(t, "OpCheck of a mark", ahead(inst(api.OpCheck, n, 0)), in(0, 3))
		can(t, "OpCheck of a place", ahead(inst(api.OpCheck, 0, n)), in(0, 3))
		can(t, "OpAssert", ahead(inst(api.OpAssert, n, -9)), in(1, 10))
		can(t, "OpSplit of X", ahead(inst(api.OpSplit, n, 1)), in(0, 3))
		can(t, "OpSplit of Y", ahead(inst(api.OpSplit, 1, n)), in(0, 3))
		can(t, "OpJump", ahead(inst(api.OpJump, n, -9)), in(0, 3))
		can(t, "OpLook's mode", prog(inst(api.OpLook, n, 2), done, done), in(0, 3))
		can(t, "OpLook's end", prog(inst(api.OpLook, 1, n), done, done, done, done), in(2, 4))
		can(t, "OpAtomic's end", prog(inst(api.OpAtomic, -9, n), done, done, done, done), in(2, 4))
		for mode := range 4 {
			can(t, "Max", prog(api.Inst{Op: api.OpLook, X: mode, Y: 2, Max: n}, done, done), in(0, 50))
			can(t, "Min", prog(api.Inst{Op: api.OpLook, X: mode, Y: 2, Min: n, Max: 20}, done, done), in(0, 20))
			can(t, "Min and Max", prog(api.Inst{Op: api.OpLook, X: mode, Y: 2, Min: n, Max: n}, done, done), in(0, 50))
		}
	}
	small := prog(inst(api.OpBack, 1, 0), done)
	small.Groups, small.Names = 0, []string{""}
	can(t, "OpBack without groups", small, false)
	small.Code[0] = inst(api.OpSave, 2, 0)
	can(t, "OpSave without groups", small, false)
	small.Code[0] = inst(api.OpSave, 1, 0)
	can(t, "OpSave of the whole", small, true)
	small.Marks = 0
	can(t, "no marks", small, true)
	small.Code[0] = inst(api.OpMark, 0, 0)
	can(t, "OpMark without marks", small, false)
	small.Code[0] = inst(api.OpCheck, 0, 0)
	can(t, "OpCheck without marks", small, false)
}

func TestSets(t *testing.T) { // P19.2
	for _, x := range []struct {
		set  []api.Range
		want bool
	}{
		{nil, true}, {[]api.Range{}, true}, {[]api.Range{{Lo: 0, Hi: api.MaxRune}}, true}, {[]api.Range{{Lo: 5, Hi: 6}, {Lo: 8, Hi: 8}}, true},
		{[]api.Range{{Lo: 5, Hi: 6}, {Lo: 7, Hi: 8}}, false}, {[]api.Range{{Lo: 5, Hi: 4}}, false}, {[]api.Range{{Lo: -1, Hi: 4}}, false}, {[]api.Range{{Lo: 1, Hi: api.MaxRune + 1}}, false}, {[]api.Range{{Lo: 5, Hi: 6}, {Lo: 1, Hi: 2}}, false}, {[]api.Range{{Lo: math.MaxInt, Hi: math.MinInt}}, false},
	} {
		can(t, "a set", ahead(api.Inst{Op: api.OpSet, Set: x.set, X: -9, Y: -9, Min: -9, Max: 99}), x.want)
		for op := api.OpSplit; op <= api.OpDone; op++ { // fields that an operation does not name
			i := api.Inst{Op: op, X: 1, Y: 2, Set: x.set}
			if op != api.OpLook {
				i.Min, i.Max = 9, -9
			}
			can(t, "a set of another one", prog(i, done, done), true)
		}
	}
}

func TestBlocks(t *testing.T) { // P19.2
	look := func(y int) api.Inst { return inst(api.OpLook, 0, y) }
	atom := func(y int) api.Inst { return inst(api.OpAtomic, 0, y) }
	item := inst(api.OpCluster, 0, 0)
	jump := func(x int) api.Inst { return inst(api.OpJump, x, 0) }
	split := func(x, y int) api.Inst { return inst(api.OpSplit, x, y) }
	check := func(y int) api.Inst { return inst(api.OpCheck, 0, y) }
	for _, x := range []struct {
		what string
		want bool
		code []api.Inst
	}{
		{"an empty block", true, []api.Inst{look(2), done, done}}, {"no block", false, []api.Inst{look(1), done, done}}, {"a block that ends at once", false, []api.Inst{look(0), done, done}}, {"the last one in a block", false, []api.Inst{look(2), done}}, {"the last one in a longer block", false, []api.Inst{atom(4), item, item, done}}, {"no end of the block", false, []api.Inst{atom(3), done, item, done}}, {"an end within the block", true, []api.Inst{atom(4), done, item, done, done}},
		{"blocks behind one another", true, []api.Inst{look(2), done, atom(4), done, done}}, {"within one another", true, []api.Inst{look(5), atom(4), item, done, done, done}}, {"that end together", true, []api.Inst{look(4), atom(4), item, done, done}}, {"three that end together", true, []api.Inst{look(4), atom(4), look(4), done, done}}, {"over the end", false, []api.Inst{look(4), item, atom(6), done, item, done, done}}, {"over the end by one", false, []api.Inst{look(3), atom(4), done, done, done}}, {"over the second end", false, []api.Inst{look(6), atom(4), look(5), done, done, done, done}}, {"behind the end", true, []api.Inst{look(3), item, done, atom(5), done, done}},
		{"to the next one", true, []api.Inst{jump(1), done}}, {"to itself", true, []api.Inst{jump(0), done}}, {"behind the program", false, []api.Inst{jump(2), done}}, {"ahead of it", false, []api.Inst{jump(-1), done}},
		{"into a block", false, []api.Inst{jump(2), look(3), done, done}}, {"into it, to its first", false, []api.Inst{look(3), item, done, jump(1), done}}, {"to what begins it", true, []api.Inst{jump(1), look(3), done, done}}, {"behind it", true, []api.Inst{jump(3), look(3), done, done}}, {"out of it", false, []api.Inst{look(3), jump(3), done, done}}, {"out of it, ahead", false, []api.Inst{look(3), jump(0), done, done}}, {"to its end", true, []api.Inst{look(3), jump(2), done, done}}, {"into a block within", false, []api.Inst{look(5), jump(3), atom(4), done, done, done}}, {"over a block within", true, []api.Inst{look(5), jump(4), atom(4), done, done, done}}, {"to an end that two have", false, []api.Inst{look(4), jump(3), atom(4), done, done}}, {"to it from within", true, []api.Inst{look(4), atom(4), jump(3), done, done}}, {"into the same kind of block", false, []api.Inst{look(3), jump(4), done, look(5), done, done}},
		{"two ways", true, []api.Inst{look(4), split(2, 3), item, done, done}}, {"a first one out of it", false, []api.Inst{look(4), split(4, 3), item, done, done}}, {"a second one out of it", false, []api.Inst{look(4), split(3, 4), item, done, done}}, {"a first one into it", false, []api.Inst{split(2, 1), look(3), done, done}}, {"a second one into it", false, []api.Inst{split(1, 2), look(3), done, done}},
		{"a check within it", true, []api.Inst{atom(3), check(2), done, done}}, {"a check out of it", false, []api.Inst{atom(3), check(3), done, done}}, {"a check into it", false, []api.Inst{check(2), atom(3), done, done}},
	} {
		can(t, x.what, prog(x.code...), x.want)
	}
	deep := make([]api.Inst, 0, api.MaxCode)
	for i := range 2499 {
		deep = append(deep, inst(api.OpAtomic, 0, 4998-i))
	}
	deep = append(deep, slices.Repeat([]api.Inst{done}, 2501)...)
	can(t, "many within one another", prog(deep...), true)
	deep[2000].Y = 5000 - 1
	can(t, "one of them too long", prog(deep...), false)
}

func TestThatChangesAreSeen(t *testing.T) { // P19.2: places of a true program, held against a slow reckoning
	tree := alt(seq(a, look(2, alt(c, a)), times(0, -1, 1, atomic(seq(group(1, "", a), times(0, 2, 2, c))))), seq(back(1), look(1, times(0, -1, 0, e))))
	p, err := compile.Prog(tree, plain)
	if err != api.OK {
		t.Fatal(err)
	}
	yes, no := 0, 0
	for at := range p.Code {
		for _, field := range []func(i *api.Inst) *int{func(i *api.Inst) *int { return &i.X }, func(i *api.Inst) *int { return &i.Y }} {
			for to := -1; to <= len(p.Code)+1; to++ {
				q := p
				q.Code = slices.Clone(p.Code)
				*field(&q.Code[at]) = to
				want := slowly(q)
				can(t, "a changed one", q, want)
				if want {
					yes++
				} else {
					no++
				}
			}
		}
	}
	if yes < 500 || no < 500 {
		t.Errorf("%d may be, %d may not", yes, no)
	}
}

// slowly tells of a program, but for its sets, marks' and groups' numbers, whether it may be: of each place it asks all blocks.
func slowly(p api.Prog) bool {
	size := len(p.Code)
	begins := func(i api.Inst) bool { return i.Op == api.OpLook || i.Op == api.OpAtomic }
	for at, i := range p.Code {
		switch i.Op {
		case api.OpSave:
			if i.X < 0 || i.X > 2*p.Groups+1 {
				return false
			}
		case api.OpBack:
			if i.X < 1 || i.X > p.Groups {
				return false
			}
		case api.OpMark, api.OpCheck:
			if i.X < 0 || i.X >= p.Marks {
				return false
			}
		case api.OpLook:
			if i.X < 0 || i.X > 3 {
				return false
			}
		}
		if begins(i) && (i.Y < at+2 || i.Y >= size || p.Code[i.Y-1].Op != api.OpDone) {
			return false
		}
	}
	innermost := func(at int) int {
		best := -1
		for b, i := range p.Code {
			if begins(i) && b < at && at < i.Y {
				best = b // a later one that has the place too begins within
			}
		}
		return best
	}
	for at, i := range p.Code {
		for b, o := range p.Code {
			if begins(i) && begins(o) && b < at && at < o.Y && i.Y > o.Y {
				return false
			}
		}
		var places []int
		switch i.Op {
		case api.OpSplit:
			places = []int{i.X, i.Y}
		case api.OpJump:
			places = []int{i.X}
		case api.OpCheck:
			places = []int{i.Y}
		}
		for _, to := range places {
			if to < 0 || to >= size || innermost(to) != innermost(at) {
				return false
			}
		}
	}
	return true
}
