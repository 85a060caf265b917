package vm_test

import (
	"slices"
	"testing"

	"rubricator/api"
	"rubricator/cluster"
	"rubricator/compile"
	"rubricator/fold"
	"rubricator/props"
	"rubricator/ranges"
	"rubricator/vm"
	"rubricator/word"
)

// Runs in another way: runs within are calls, an entry of the stack is four numbers, and who exceeds a budget panics.

type slow struct {
	x            *props.Tables
	p            api.Prog
	l            []int
	b            api.Budget
	steps, depth int // taken; and the most entries that there were
	groups       []int
	marks        []int
	stack        []laid
}

// laid is an entry: a way (with pc), or what was: a group's place or a mark.
type laid struct {
	isWay, isMark bool
	number, place int
}

type exceeded struct{}

func (s *slow) lay(e laid) {
	if len(s.stack) >= s.b.Depth {
		panic(exceeded{})
	}
	s.stack = append(s.stack, e)
	s.depth = max(s.depth, len(s.stack))
}

// undo takes an entry off; a way is told.
func (s *slow) undo() (laid, bool) {
	e := s.stack[len(s.stack)-1]
	s.stack = s.stack[:len(s.stack)-1]
	switch {
	case e.isWay:
	case e.isMark:
		s.marks[e.number] = e.place
	default:
		s.groups[e.number] = e.place
	}
	return e, e.isWay
}

// from runs up to an OpDone, which counts at the place end alone (below 0: anywhere); it tells where that is, and whether it came to it.
func (s *slow) from(pc, at, end int) (int, bool) {
	floor := len(s.stack)
	for {
		if s.steps >= s.b.Steps {
			panic(exceeded{})
		}
		s.steps++
		ok := true
		if i := s.p.Code[pc]; i.Op == api.OpDone {
			if end < 0 || at == end {
				return at, true
			}
			ok = false
		} else {
			pc, at, ok = s.take(i, pc, at)
		}
		for !ok {
			if len(s.stack) == floor {
				return 0, false
			}
			var e laid
			if e, ok = s.undo(); ok {
				pc, at = e.number, e.place
			}
		}
	}
}

// take is an instruction: where it goes on.
func (s *slow) take(i api.Inst, pc, at int) (int, int, bool) {
	there := at < len(s.l)
	switch i.Op {
	case api.OpSet:
		return pc + 1, at + 1, there && ranges.Has(i.Set, s.l[at])
	case api.OpSplit:
		s.lay(laid{isWay: true, number: i.Y, place: at})
		return i.X, at, true
	case api.OpJump:
		return i.X, at, true
	case api.OpSave:
		s.lay(laid{number: i.X, place: s.groups[i.X]})
		s.groups[i.X] = at
	case api.OpMark:
		s.lay(laid{isMark: true, number: i.X, place: s.marks[i.X]})
		s.marks[i.X] = at
	case api.OpCheck:
		if s.marks[i.X] == at {
			return i.Y, at, true
		}
	case api.OpAssert:
		return pc + 1, at, s.so(i.X, at)
	case api.OpCluster:
		return pc + 1, cluster.Next(s.x, s.l, at), there
	case api.OpBack:
		return s.again(i.X, pc, at)
	case api.OpAtomic:
		floor := len(s.stack)
		to, ok := s.from(pc+1, at, -1)
		if ok {
			s.noWays(floor)
		}
		return i.Y, to, ok
	case api.OpLook:
		return s.look(i, pc, at)
	}
	return pc + 1, at, true
}

func (s *slow) noWays(floor int) {
	kept := slices.Clone(s.stack[:floor])
	for _, e := range s.stack[floor:] {
		if !e.isWay {
			kept = append(kept, e)
		}
	}
	s.stack = kept
}

func (s *slow) look(i api.Inst, pc, at int) (int, int, bool) {
	floor := len(s.stack)
	begins, end := []int{at}, -1
	if i.X == api.Behind || i.X == api.NotBehind {
		begins, end = nil, at
		for k := i.Min; k <= i.Max && k <= at; k++ {
			begins = append(begins, at-k)
		}
	}
	came := slices.ContainsFunc(begins, func(from int) bool {
		_, ok := s.from(pc+1, from, end)
		return ok
	})
	not := i.X == api.NotAhead || i.X == api.NotBehind
	switch {
	case came && not:
		for len(s.stack) > floor {
			s.undo()
		}
	case came:
		s.noWays(floor)
	}
	return i.Y, at, came != not
}

func (s *slow) again(group, pc, at int) (int, int, bool) {
	from, to := s.groups[2*group], s.groups[2*group+1]
	if from < 0 || to < 0 || from > to || at+to-from > len(s.l) {
		return 0, 0, false
	}
	same := func(a, b int) bool {
		if s.p.Options.Fold > 0 {
			return fold.Same(s.x, a, b)
		}
		return a == b
	}
	return pc + 1, at + to - from, slices.EqualFunc(s.l[from:to], s.l[at:at+to-from], same)
}

func (s *slow) so(mode, at int) bool {
	ends := []int{0xa, 0xd, 0x85, 0x2028, 0x2029}
	lines := s.p.Options.Multi && (at == 0 || at == len(s.l) || s.l[at-1] != 0xd || s.l[at] != 0xa)
	switch mode {
	case api.AtBegin:
		return at == 0 || lines && slices.Contains(ends, s.l[at-1])
	case api.AtEnd:
		return at == len(s.l) || lines && slices.Contains(ends, s.l[at])
	case api.TextBegin:
		return at == 0
	case api.TextEnd:
		return at == len(s.l)
	}
	edge := []func(*props.Tables, []int, int) bool{word.Simple, cluster.Edge, word.Edge}[(mode-api.WordEdge)/2]
	return edge(s.x, s.l, at) == (mode%2 == 1)
}

// slowly is a run's result, and the most entries that there were.
func slowly(x *props.Tables, p api.Prog, l []int, at int, b api.Budget) (out api.Result, depth int) {
	s := &slow{x: x, p: p, l: l, b: b, groups: slices.Repeat([]int{-1}, 2*p.Groups+2), marks: slices.Repeat([]int{-1}, p.Marks)}
	defer func() {
		depth = s.depth
		if e := recover(); e != nil {
			if _, ok := e.(exceeded); !ok {
				panic(e)
			}
			out = api.Result{Kind: api.Exceeded, Steps: s.steps}
		}
	}()
	if _, ok := s.from(0, at, -1); ok {
		return api.Result{Kind: api.Match, Steps: s.steps, Caps: s.groups}, s.depth
	}
	return api.Result{Kind: api.NoMatch, Steps: s.steps}, s.depth
}

func same(x, y api.Result) bool {
	return x.Kind == y.Kind && x.Steps == y.Steps && slices.Equal(x.Caps, y.Caps)
}

// maker makes what hangs on a number alone.
type maker struct {
	seed   uint32
	groups int
}

func (m *maker) pick(n int) int {
	m.seed = m.seed*1664525 + 1013904223
	return int(m.seed>>16) % n
}

func (m *maker) text() []int {
	letters := [][]int{{'a', 'b'}, {'a', 'A', 'b', 0x301}, {'a', '\r', '\n', 0x85}, {'a', ' ', '\'', 0x200d, 0x1f1e6}, {'k', 'K', 0x212a, 's', 0x17f}}[m.pick(5)]
	var l []int
	for range m.pick(7) {
		l = append(l, letters[m.pick(len(letters))])
	}
	return l
}

func (m *maker) set() []api.Range {
	return [][]api.Range{{{Lo: 'a', Hi: 'a'}}, {{Lo: 'a', Hi: 'b'}}, {{Lo: 0, Hi: api.MaxRune}}, {{Lo: 'A', Hi: 'Z'}, {Lo: 0x301, Hi: 0x301}}, nil, {{Lo: 'b', Hi: 'z'}}}[m.pick(6)]
}

// hand is a program as no tree becomes one: any places within a block, ends within, blocks that end together.
func (m *maker) hand() api.Prog {
	p := api.Prog{Groups: 1 + m.pick(2), Marks: 1 + m.pick(2), Options: api.Options{Multi: m.pick(2) > 0, Fold: m.pick(3)}}
	p.Names = make([]string, p.Groups+1)
	p.Code = append(m.block(p, 3), api.Inst{Op: api.OpDone})
	in := innermost(p.Code)
	for at := range p.Code {
		i := &p.Code[at]
		for _, field := range map[int][]*int{api.OpSplit: {&i.X, &i.Y}, api.OpJump: {&i.X}, api.OpCheck: {&i.Y}}[i.Op] {
			for *field = m.pick(len(p.Code)); in[*field] != in[at]; {
				*field = m.pick(len(p.Code))
			}
			if m.pick(3) > 0 && in[at+1] == in[at] { // often the next one, so that not all is for ever
				*field = at + 1
			}
		}
	}
	return p
}

// block is instructions with blocks in them, whose ends are told from the block's own beginning on.
func (m *maker) block(p api.Prog, deep int) []api.Inst {
	var out []api.Inst
	for range 1 + m.pick(5) {
		i := api.Inst{Op: 1 + m.pick(12), Set: m.set()}
		switch i.Op {
		case api.OpSave:
			i.X = m.pick(2*p.Groups + 2)
		case api.OpBack:
			i.X = 1 + m.pick(p.Groups)
		case api.OpMark, api.OpCheck:
			i.X = m.pick(p.Marks)
		case api.OpAssert:
			i.X = 1 + m.pick(10)
		case api.OpLook, api.OpAtomic:
			if deep == 0 {
				continue
			}
			i.X = m.pick(4)
			i.Min = m.pick(3)
			i.Max = i.Min + m.pick(3)
			body := m.block(p, deep-1)
			if m.pick(4) > 0 || body[len(body)-1].Op != api.OpDone {
				body = append(body, api.Inst{Op: api.OpDone})
			}
			i.Y = len(body) + 1
			here := len(out)
			out = append(out, i)
			out = append(out, body...)
			for k := here; k < len(out); k++ {
				if o := &out[k]; k > here && (o.Op == api.OpLook || o.Op == api.OpAtomic) {
					o.Y += here + 1
				} else if k == here {
					o.Y += here
				}
			}
			continue
		case api.OpDone:
			if m.pick(3) > 0 {
				continue
			}
		}
		out = append(out, i)
	}
	if len(out) == 0 {
		out = append(out, api.Inst{Op: api.OpSet, Set: m.set()})
	}
	return out
}

// innermost tells of each place in which block it stands.
func innermost(code []api.Inst) []int {
	in := make([]int, len(code))
	for at, i := range code {
		if i.Op == api.OpLook || i.Op == api.OpAtomic {
			for k := at + 1; k < i.Y; k++ {
				in[k] = at + 1
			}
		}
	}
	return in
}

func TestProgramsMadeByHand(t *testing.T) { // P20.1, P20.2
	x := props.Load()
	kinds := [4]int{}
	for seed := range 30_000 {
		m := maker{seed: uint32(seed)}
		p := m.hand()
		if !compile.Can(p) {
			t.Fatalf("%v may not be", p)
		}
		l := m.text()
		at := m.pick(len(l) + 1)
		b := api.Budget{Steps: 2000, Depth: 300}
		want, depth := slowly(x, p, l, at, b)
		got := vm.Run(x, p, l, at, b)
		if !same(got, want) {
			t.Fatalf("%d: %v over %x at %d: %v, want %v", seed, p, l, at, got, want)
		}
		kinds[got.Kind]++
		for range 4 { // budgets that are just enough, or not
			small := api.Budget{Steps: max(want.Steps+1-m.pick(4), 0), Depth: max(depth+1-m.pick(3), 0)}
			if m.pick(3) == 0 {
				small = api.Budget{Steps: m.pick(want.Steps + 1), Depth: m.pick(depth + 1)}
			}
			want, _ := slowly(x, p, l, at, small)
			if got := vm.Run(x, p, l, at, small); !same(got, want) || got.Steps > small.Steps {
				t.Fatalf("%d: %v over %x at %d with %v: %v, want %v", seed, p, l, at, small, got, want)
			}
		}
	}
	if slices.Min(kinds[1:]) < 2000 {
		t.Errorf("kinds %v", kinds)
	}
}
