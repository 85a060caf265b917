package compile

import "rubricator/api"

// counts is how many instructions a program has: of OpSplits, of those that begin a run within, and of looks behind.
type counts struct{ splits, within, behind int }

func countsOf(code []api.Inst) counts {
	var c counts
	for _, i := range code {
		switch i.Op {
		case api.OpSplit:
			c.splits++
		case api.OpLook, api.OpAtomic:
			c.within++
		}
		if looksBehind(i) {
			c.behind++
		}
	}
	return c
}

// times is a product, of a not below 0 and b above 0; at most MaxBudget.
func times(a, b int) int {
	if a > api.MaxBudget/b {
		return api.MaxBudget
	}
	return a * b
}

// power is a to the power of e; at most MaxBudget. As a is above 1, that is soon come to.
func power(a, e int) int {
	out := 1
	for e > 0 && out < api.MaxBudget {
		out = times(out, a)
		e--
	}
	return out
}
