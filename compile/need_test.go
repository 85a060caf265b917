package compile_test

import (
	"math"
	"math/big"
	"testing"

	"rubricator/api"
	"rubricator/compile"
)

// reckoned is what a program needs, by numbers without bound.
func reckoned(p api.Prog, items int) api.Budget {
	var splits, within, behind int64
	for _, i := range p.Code {
		if i.Op == api.OpSplit {
			splits++
		}
		if i.Op == api.OpLook || i.Op == api.OpAtomic {
			within++
		}
		if i.Op == api.OpLook && (i.X == api.Behind || i.X == api.NotBehind) {
			behind++
		}
	}
	c := int64(len(p.Code))
	number := big.NewInt
	product := func(l ...*big.Int) *big.Int {
		out := number(1)
		for _, x := range l {
			out.Mul(out, x)
		}
		return out
	}
	most := number(api.MaxBudget)
	bounded := func(x *big.Int) int {
		if x.Cmp(most) > 0 {
			return api.MaxBudget
		}
		return int(x.Int64())
	}
	power := func(x, e *big.Int) *big.Int {
		if e.Cmp(number(1<<16)) > 0 { // far beyond the bound
			return product(most, most)
		}
		return new(big.Int).Exp(x, e, nil)
	}
	places := new(big.Int).Add(number(int64(max(items, 0))), number(2))
	l := product(number(c), number(c+1), places)
	steps := product(power(l, number(within+1)), power(number(2), product(number(splits), number(c+1), places)), power(number(api.MaxWidth+1), number(behind)))
	return api.Budget{Steps: bounded(steps), Depth: bounded(product(l, number(within+1)))}
}

func TestNeed(t *testing.T) { // P19.3
	for _, x := range []struct {
		n     api.Node
		items int
		want  api.Budget
	}{
		{seq(), 0, api.Budget{Steps: 24, Depth: 24}}, {a, 1, api.Budget{Steps: 60, Depth: 60}}, {a, 0, api.Budget{Steps: 40, Depth: 40}}, {a, -1, api.Budget{Steps: 40, Depth: 40}}, {a, math.MinInt, api.Budget{Steps: 40, Depth: 40}}, {a, 100, api.Budget{Steps: 2040, Depth: 2040}},
		{times(0, 1, 0, a), 0, api.Budget{Steps: 60 << 12, Depth: 60}}, {times(0, 1, 0, a), 2, api.Budget{Steps: 120 << 24, Depth: 120}},
		{atomic(a), 1, api.Budget{Steps: 126 * 126, Depth: 252}}, {look(1, a), 0, api.Budget{Steps: 84 * 84, Depth: 168}}, {look(2, a), 0, api.Budget{Steps: 84 * 84 * 51, Depth: 168}}, {look(3, a), 0, api.Budget{Steps: 84 * 84 * 51, Depth: 168}}, {times(0, 0, 2, a), 0, api.Budget{Steps: 60 * 60, Depth: 120}},
		{times(0, -1, 0, a), 10, api.Budget{Steps: api.MaxBudget, Depth: 864}}, {a, math.MaxInt, api.Budget{Steps: api.MaxBudget, Depth: api.MaxBudget}}, {a, api.MaxBudget, api.Budget{Steps: api.MaxBudget, Depth: api.MaxBudget}}, {a, 1<<40/20 - 3, api.Budget{Steps: 20 * (1<<40/20 - 1), Depth: 20 * (1<<40/20 - 1)}}, {a, 1<<40/20 - 1, api.Budget{Steps: api.MaxBudget, Depth: api.MaxBudget}},
	} {
		p, e := compile.Prog(x.n, plain)
		if got := compile.Need(p, x.items); e != api.OK || got != x.want || got != reckoned(p, x.items) {
			t.Errorf("%v of %d items: %v, want %v", x.n, x.items, got, x.want)
		}
	}
	odd := prog(api.Inst{Op: api.OpAtomic, X: api.Behind, Y: 2}, done, done) // X of OpAtomic plays no part
	if got, want := compile.Need(odd, 0), (api.Budget{Steps: 24 * 24, Depth: 48}); got != want {
		t.Errorf("of an odd one: %v, want %v", got, want)
	}
}

func TestManyNeeds(t *testing.T) { // P19.3, P19.5
	items := []int{math.MinInt, -1, 0, 1, 2, 3, 5, 8, 13, 100, 1000, 1 << 20, 1 << 30, 1 << 39, 1 << 40, 1<<40 + 1, 1 << 62, math.MaxInt - 2, math.MaxInt - 1, math.MaxInt}
	below := 0
	for seed := range 400 {
		m := maker{seed: uint32(seed)}
		p, e := compile.Prog(m.tree(1+m.pick(3), true), plain)
		if e != api.OK {
			continue
		}
		last := api.Budget{}
		for _, n := range items {
			got := compile.Need(p, n)
			if got != reckoned(p, n) || got.Steps < last.Steps || got.Depth < last.Depth {
				t.Fatalf("Need(%v, %d) = %v, want %v, behind %v", p, n, got, reckoned(p, n), last)
			}
			last = got
			if got.Steps < api.MaxBudget {
				below++
			}
		}
	}
	if below < 500 {
		t.Errorf("only %d below the bound", below)
	}
}
