package parse_test

import (
	"fmt"
	"slices"
	"strings"
	"testing"

	"rubricator/api"
	"rubricator/parse"
	"rubricator/token"
	"rubricator/tree"
)

// Patterns in another way: of each token it is asked on its own, by those ahead of it, whether it can stand there; if all can, the tree is made from the outside in.

// opened is the places of the tokens that are open ahead of a place.
func opened(l []api.Token) []int {
	var out []int
	for i, x := range l {
		switch x.Kind {
		case api.TokOpen, api.TokClass:
			out = append(out, i)
		case api.TokClose, api.TokEnd:
			out = out[:len(out)-1]
		}
	}
	return out
}

// begun is the names of the groups with a number that begin in tokens.
func begun(l []api.Token) []string {
	var out []string
	for _, x := range l {
		if x.Kind == api.TokOpen && (x.Mode == 0 || x.Mode == 2) {
			out = append(out, x.Name)
		}
	}
	return out
}

// wrong is the error of the last token, if all ahead of it can stand there.
func wrong(l []api.Token) api.Errno {
	last := len(l) - 1
	x, ahead := l[last], l[:last]
	open := opened(ahead)
	if len(open) > 0 && l[open[len(open)-1]].Kind == api.TokClass {
		return wrongInClass(x, ahead, len(open))
	}
	names := begun(ahead)
	switch x.Kind {
	case api.TokClose:
		if len(open) == 0 {
			return api.ErrMark
		}
	case api.TokRepeat:
		return wrongRepeat(ahead)
	case api.TokOpen:
		switch {
		case len(open) >= api.MaxDepth:
			return api.ErrDeep
		case x.Mode == 2 && slices.Contains(names, x.Name):
			return api.ErrGroup
		case len(begun(l)) > api.MaxGroups:
			return api.ErrFull
		}
	case api.TokClass:
		if len(open) >= api.MaxDepth {
			return api.ErrDeep
		}
	case api.TokBack:
		if x.Name != "" && !slices.Contains(names, x.Name) || x.A > len(names) {
			return api.ErrGroup
		}
	}
	return api.OK
}

// wrongRepeat is the error of a repetition, by what stands ahead of it.
func wrongRepeat(ahead []api.Token) api.Errno {
	if len(ahead) == 0 {
		return api.ErrMark
	}
	switch x := ahead[len(ahead)-1]; x.Kind {
	case api.TokOpen, api.TokBar:
		return api.ErrMark
	case api.TokRepeat, api.TokAssert:
		return api.ErrRepeat
	case api.TokClose:
		open := opened(ahead[:len(ahead)-1])
		if mode := ahead[open[len(open)-1]].Mode; mode >= 3 && mode <= 6 {
			return api.ErrRepeat
		}
	}
	return api.OK
}

func wrongInClass(x api.Token, ahead []api.Token, depth int) api.Errno {
	before := ahead[len(ahead)-1]
	code, second := x.Kind == api.TokChar, ahead[max(0, len(ahead)-2)]
	mark := x.Kind == api.TokEnd || x.Kind == api.TokSet || x.Kind == api.TokDash
	switch {
	case before.Kind == api.TokDash && !code, mark && (before.Kind == api.TokClass || before.Kind == api.TokSet):
		return api.ErrMark
	case x.Kind == api.TokDash && (before.Kind != api.TokChar || second.Kind == api.TokDash):
		return api.ErrMark
	case x.Kind == api.TokClass && depth >= api.MaxDepth:
		return api.ErrDeep
	case code && before.Kind == api.TokDash && x.A < second.A:
		return api.ErrRange
	}
	return api.OK
}

// split is tokens at those of a kind that stand within no brackets.
func split(l []api.Token, kind int) (parts [][]api.Token, at []api.Token) {
	from, depth := 0, 0
	for i, x := range l {
		switch x.Kind {
		case api.TokOpen, api.TokClass:
			depth++
		case api.TokClose, api.TokEnd:
			depth--
		}
		if x.Kind == kind && depth == 0 {
			parts, at, from = append(parts, l[from:i]), append(at, x), i+1
		}
	}
	return append(parts, l[from:]), at
}

// inside is how many tokens stand between the bracket with which l begins, and its end.
func inside(l []api.Token) int {
	for i := range l {
		if len(opened(l[:i+1])) == 0 {
			return i - 1
		}
	}
	return 0
}

// made is the body of tokens that all can stand there; names has the groups that begin ahead of them.
func made(l []api.Token, names *[]string) api.Node {
	parts, bars := split(l, api.TokBar)
	var out []api.Node
	for _, x := range parts {
		out = append(out, row(x, names))
	}
	if len(bars) == 0 {
		return out[0]
	}
	return alt(out...)
}

func row(l []api.Token, names *[]string) api.Node {
	var out []api.Node
	for len(l) > 0 {
		size := 1
		switch x := l[0]; x.Kind {
		case api.TokRepeat:
			out[len(out)-1] = repeat(x.A, x.B, x.Mode, out[len(out)-1])
		case api.TokOpen:
			size = inside(l) + 2
			out = append(out, bracketed(x, l[1:size-1], names))
		case api.TokClass:
			size = inside(l) + 2
			out = append(out, classOf(x, l[1:size-1]))
		case api.TokBack:
			n := x.A
			if x.Name != "" {
				n = slices.Index(*names, x.Name) + 1
			}
			out = append(out, back(n))
		default:
			out = append(out, single(x))
		}
		l = l[size:]
	}
	return seq(out...)
}

func bracketed(x api.Token, l []api.Token, names *[]string) api.Node {
	switch x.Mode {
	case 0, 2:
		*names = append(*names, x.Name)
		n := len(*names)
		return group(n, x.Name, made(l, names))
	case 1:
		return group(0, "", made(l, names))
	case 7:
		return atomic(made(l, names))
	}
	return look(x.Mode-3, made(l, names))
}

func single(x api.Token) api.Node {
	return map[int]api.Node{api.TokChar: char(x.A), api.TokAny: dot, api.TokAssert: assertion(x.Mode), api.TokProp: prop(x.Name, x.Neg), api.TokCluster: cluster}[x.Kind]
}

func classOf(x api.Token, l []api.Token) api.Node {
	sides, signs := split(l, api.TokSet)
	n := members(sides[0])
	for i, sign := range signs {
		n = class(sign.Mode, n, members(sides[i+1]))
	}
	n.Neg = x.Neg
	return n
}

func members(l []api.Token) api.Node {
	var out []api.Node
	for len(l) > 0 {
		size := 1
		switch {
		case l[0].Kind == api.TokClass:
			size = inside(l) + 2
			out = append(out, classOf(l[0], l[1:size-1]))
		case len(l) > 2 && l[1].Kind == api.TokDash:
			size = 3
			out = append(out, span(l[0].A, l[2].A))
		default:
			out = append(out, single(l[0]))
		}
		l = l[size:]
	}
	return union(out...)
}

// reckoned is what Parse should tell.
func reckoned(p string) (api.Node, api.Fault) {
	l, f := token.Scan([]byte(p))
	for i, x := range l {
		if e := wrong(l[:i+1]); e != api.OK {
			return api.Node{}, api.Fault{Code: e, At: x.Start}
		}
	}
	switch {
	case f.Code != api.OK:
		return api.Node{}, f
	case len(opened(l)) > 0:
		return api.Node{}, api.Fault{Code: api.ErrEnd, At: len(p)}
	}
	n := made(l, new([]string))
	if _, e := tree.Print(n); e != api.OK {
		return api.Node{}, api.Fault{Code: api.ErrFull, At: len(p)}
	}
	return n, api.Fault{}
}

// held holds what Parse tells against what is reckoned, and looks whether it is read as the same, printed.
func held(t *testing.T, p string) api.Fault {
	t.Helper()
	got, f := parse.Parse([]byte(p))
	want, g := reckoned(p)
	if f != g || !tree.Same(got, want) {
		t.Fatalf("Parse(%q) = %v, fault %v, want %v, %v", p, got, f, want, g)
	}
	if f.Code == api.OK {
		s, e := tree.Print(got)
		again, g := parse.Parse([]byte(s))
		if e != api.OK || g.Code != api.OK || !tree.Same(again, got) {
			t.Fatalf("%q: printed %q, %v, which is read as %v, fault %v", p, s, e, again, g)
		}
	}
	return f
}

// texts tells all texts of up to so many pieces.
func texts(pieces []string, most int, tell func(s string)) {
	var grow func(s string, n int)
	grow = func(s string, n int) {
		tell(s)
		if n == most {
			return
		}
		for _, piece := range pieces {
			grow(s+piece, n+1)
		}
	}
	grow("", 0)
}

func TestManyPatterns(t *testing.T) { // P15.1, P15.2
	faults := map[api.Errno]int{}
	for _, x := range []struct {
		pieces string
		most   int
	}{
		{`a . | ( ) * {2}? [b]`, 5}, {`( (?<n> (?<m> ) \1 \2 \k<n> \k<m> |`, 5}, {`(?= (?<! (?> (?: ) + a ^ \b`, 5}, {`\d \p{Lu} \X \k{1} ( ) ?+ \B{w}`, 4},
		{`[ [^ ] a z - && -- \d`, 5}, {`[ ] a - -- \d`, 6}, {`[ ] a - ~~ \- \W * |`, 5}, {`[a [b-c ] -- && - ( )`, 5}, {`( [ ] ) a * \q \ {3,1}`, 4}, {`[ - a \b \x{0} \p{zz} ]`, 4}, {`(?<n> \k<n> \k<m ) (? [ ]`, 4},
	} {
		texts(strings.Split(x.pieces, " "), x.most, func(s string) { faults[held(t, s).Code]++ })
	}
	for _, code := range []api.Errno{api.OK, api.ErrMark, api.ErrRepeat, api.ErrGroup, api.ErrRange, api.ErrEnd, api.ErrEscape, api.ErrName} {
		if faults[code] < 10 {
			t.Errorf("%d patterns with the fault %d", faults[code], code)
		}
	}
}

// maker makes patterns and trees that hang on a number alone.
type maker struct {
	seed   uint32
	groups int
}

func (m *maker) pick(n int) int {
	m.seed = m.seed*1664525 + 1013904223
	return int(m.seed>>16) % n
}

func TestLongPatterns(t *testing.T) { // P15.1, P15.2: most of them right, and up to MaxPattern bytes
	pieces := []string{"a", "é", "\n", ".", "|", "(", "(?:", "(?<n%d>", "(?<=", "(?!", "(?>", ")", ")", ")", ")", ")", ")", "a*", "b+?", ".{2,3}+", "^", `\b{g}`, `\d`, `\p{Lu}`, `\X`, "[a-z]", `[^\d--[2-4\]]~~\x{41}]`, "[[^a]&&b-c]", "[", "]", `\1`}
	faults := map[api.Errno]int{}
	for size := range 600 {
		m := &maker{seed: uint32(size)}
		var p strings.Builder
		depth := 0
		for i := range size {
			piece := pieces[m.pick(len(pieces))]
			switch {
			case piece == ")" && depth == 0, piece == "[" || piece == "]" || piece == `\1`:
				if size%5 > 0 || m.pick(40) > 0 {
					continue
				}
			case piece == ")":
				depth--
			case strings.HasPrefix(piece, "("):
				depth++
			}
			if strings.Contains(piece, "%d") {
				piece = fmt.Sprintf(piece, i)
			}
			if p.Len()+len(piece) > api.MaxPattern-depth {
				break
			}
			p.WriteString(piece)
		}
		if size%7 > 0 {
			p.WriteString(strings.Repeat(")", depth))
		}
		faults[held(t, p.String()).Code]++
	}
	for _, code := range []api.Errno{api.OK, api.ErrMark, api.ErrEnd, api.ErrFull} {
		if faults[code] < 10 {
			t.Errorf("%d patterns with the fault %d", faults[code], code)
		}
	}
}

func (m *maker) point() int {
	return []int{'a', 'b', '-', '^', ']', '[', '&', '~', '\\', '{', '}', '?', '|', 0, 10, 127, 0xe9, 0x301, 0x1f600, api.MaxRune}[m.pick(20)]
}

func (m *maker) body(depth int) api.Node {
	one := func() api.Node {
		var l []api.Node
		for range m.pick(4) {
			l = append(l, m.part(depth))
		}
		return seq(l...)
	}
	if m.pick(3) > 0 {
		return one()
	}
	l := []api.Node{one(), one()}
	for range m.pick(2) {
		l = append(l, one())
	}
	return alt(l...)
}

func (m *maker) property() api.Node {
	return prop([]string{"d", "w", "s", "gc=Lu", "gc=L", "sc=Grek", "space", "Any"}[m.pick(8)], m.pick(2) == 0)
}

func (m *maker) part(depth int) api.Node {
	if depth == 0 {
		return char(m.point())
	}
	switch m.pick(12) {
	case 0:
		return dot
	case 1:
		return m.class(depth)
	case 2:
		return m.property()
	case 3:
		kid := m.part(depth - 1)
		if kid.Kind == api.NodeRepeat || kid.Kind == api.NodeLook || kid.Kind == api.NodeAssert {
			return kid
		}
		least := m.pick(4)
		return repeat(least, []int{-1, least, least + 1, 100}[m.pick(4)], m.pick(3), kid)
	case 4:
		return group(0, "", m.body(depth-1))
	case 5:
		m.groups++
		n := m.groups
		return group(n, []string{"", fmt.Sprint("n", n)}[m.pick(2)], m.body(depth-1))
	case 6:
		return look(m.pick(4), m.body(depth-1))
	case 7:
		return atomic(m.body(depth - 1))
	case 8:
		return assertion(1 + m.pick(10))
	case 9:
		if m.groups > 0 {
			return back(1 + m.pick(m.groups))
		}
		return cluster
	}
	return char(m.point())
}

func (m *maker) union(depth int) api.Node {
	var l []api.Node
	for range 1 + m.pick(3) {
		lo, hi := m.point(), m.point()
		switch kind := m.pick(5); {
		case kind == 0:
			l = append(l, span(min(lo, hi), max(lo, hi)))
		case kind == 1:
			l = append(l, m.property())
		case kind == 2 && depth > 0:
			l = append(l, m.class(depth-1))
		default:
			l = append(l, char(lo))
		}
	}
	return union(l...)
}

func (m *maker) class(depth int) api.Node {
	n := m.union(depth)
	for range m.pick(3) {
		n = class(1+m.pick(3), n, m.union(depth))
	}
	n.Neg = m.pick(2) == 0
	return n
}

func TestThereAndBack(t *testing.T) { // P15.2, P2
	trees := 0
	for i := range 6000 {
		m := &maker{seed: uint32(i)}
		n := m.body(1 + m.pick(6))
		s, e := tree.Print(n)
		if e != api.OK {
			continue // too many groups, or too long
		}
		trees++
		if got, f := parse.Parse([]byte(s)); f != (api.Fault{}) || !tree.Same(got, n) {
			t.Fatalf("%+v: printed %q, which is read as %+v, fault %v", n, s, got, f)
		}
	}
	if trees < 4000 {
		t.Errorf("only %d trees", trees)
	}
}
