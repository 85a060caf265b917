package fold_test

import (
	"math"
	"math/rand"
	"slices"
	"strconv"
	"strings"
	"testing"

	"rubricator/api"
	"rubricator/fold"
	"rubricator/props"
	"rubricator/ranges"
)

// fileFoldings is what the file says by records of a status, read without the layers.
func fileFoldings(t *testing.T, status string) map[int][]int {
	t.Helper()
	out := map[int][]int{}
	for line := range strings.SplitSeq(api.Folding(), "\n") {
		if line == "" || line[0] == '#' {
			continue
		}
		fields := strings.Split(line, " ; ")
		if fields[1] != status {
			continue
		}
		first, last, several := strings.Cut(fields[0], "..")
		if !several {
			last = first
		}
		for r := hex(t, first); r <= hex(t, last); r++ {
			for s := range strings.SplitSeq(fields[2], " ") {
				out[r] = append(out[r], hex(t, s)+r-hex(t, first))
			}
		}
	}
	if len(out) == 0 {
		t.Fatalf("no record of status %s", status)
	}
	return out
}

func hex(t *testing.T, s string) int {
	t.Helper()
	n, err := strconv.ParseInt(s, 16, 64)
	if err != nil {
		t.Fatal(err)
	}
	return int(n)
}

// simples is each code point's simple folding, by the file.
func simples(t *testing.T) []int {
	t.Helper()
	common, simple := fileFoldings(t, "C"), fileFoldings(t, "S")
	out := make([]int, api.MaxRune+1)
	for r := range out {
		out[r] = r
		for _, l := range [][]int{simple[r], common[r]} {
			if len(l) > 0 {
				out[r] = l[0]
			}
		}
	}
	return out
}

// closed is Closure by going through all code points.
func closed(simple []int, a []api.Range) []api.Range {
	folded := make([]bool, len(simple))
	for _, x := range a {
		for r := max(x.Lo, 0); r <= min(x.Hi, api.MaxRune); r++ {
			folded[simple[r]] = true
		}
	}
	var out []api.Range
	for r, to := range simple {
		last := len(out) - 1
		switch {
		case !folded[to]:
		case last >= 0 && out[last].Hi == r-1:
			out[last].Hi = r
		default:
			out = append(out, api.Range{Lo: r, Hi: r})
		}
	}
	return out
}

// interesting is the code points that the file tells of or folds to, and such as stand beside them.
func interesting(t *testing.T) []int {
	t.Helper()
	var out []int
	for _, status := range []string{"C", "S", "F"} {
		for r, to := range fileFoldings(t, status) {
			out = append(out, r, r+1)
			out = append(out, to...)
		}
	}
	out = append(out, 0, '@', '[', '`', '{', 0xd7, 0xf7, 0x131, 0xac00, 0xd800, 0xdfff, api.MaxRune)
	slices.Sort(out)
	return slices.Compact(out)
}

// noCodePoints is numbers beside all code points.
func noCodePoints() []int {
	return []int{math.MinInt, math.MinInt32, -'A', -1, api.MaxRune + 1, 0x200041, 1 << 32, 1<<32 + 'A', math.MaxInt}
}

// lists is lists of ranges, most of them no sets: they overlap, touch, fall, go beyond the code points.
func lists(t *testing.T) [][]api.Range {
	t.Helper()
	points := interesting(t)
	source := rand.New(rand.NewSource(9))
	var out [][]api.Range
	for n := range 60 {
		var l []api.Range
		for range n % 7 {
			lo := points[source.Intn(len(points))]
			l = append(l, api.Range{Lo: lo, Hi: lo + source.Intn(9) - 2})
		}
		out = append(out, l)
	}
	return out
}

// spoil writes all over a list, its spare room too.
func spoil[T any](l []T, with T) {
	l = l[:cap(l)]
	for i := range l {
		l[i] = with
	}
}

func TestExamples(t *testing.T) { // P9.1
	x := props.Load()
	for _, c := range []struct {
		r, simple int
		full      []int
	}{
		{'A', 'a', []int{'a'}}, {'Z', 'z', []int{'z'}}, {'a', 'a', []int{'a'}}, {'@', '@', []int{'@'}}, {'[', '[', []int{'['}},
		{0xb5, 0x3bc, []int{0x3bc}}, {0xd6, 0xf6, []int{0xf6}}, {0xd7, 0xd7, []int{0xd7}}, {0x17f, 's', []int{'s'}},
		{0xdf, 0xdf, []int{'s', 's'}},   // F alone
		{0x1e9e, 0xdf, []int{'s', 's'}}, // F and S
		{0x130, 0x130, []int{'i', 0x307}}, {0x131, 0x131, []int{0x131}},
		{0x1c4, 0x1c6, []int{0x1c6}}, {0x1c5, 0x1c6, []int{0x1c6}}, {0x345, 0x3b9, []int{0x3b9}},
		{0x3a3, 0x3c3, []int{0x3c3}}, {0x3c2, 0x3c3, []int{0x3c3}}, {0x212a, 'k', []int{'k'}}, {0x2126, 0x3c9, []int{0x3c9}},
		{0xfb03, 0xfb03, []int{'f', 'f', 'i'}}, {0xfb02, 0xfb02, []int{0xfb02}},
		{0, 0, []int{0}}, {0xd800, 0xd800, []int{0xd800}}, {api.MaxRune, api.MaxRune, []int{api.MaxRune}},
	} {
		if got := fold.Simple(x, c.r); got != c.simple {
			t.Errorf("Simple(%#x) = %#x, want %#x", c.r, got, c.simple)
		}
		if got := fold.Full(x, c.r); !slices.Equal(got, c.full) {
			t.Errorf("Full(%#x) = %x, want %x", c.r, got, c.full)
		}
	}
}

func TestSimpleAndFull(t *testing.T) { // P9.1
	x := props.Load()
	common, full := fileFoldings(t, "C"), fileFoldings(t, "F")
	for r, want := range simples(t) {
		if got := fold.Simple(x, r); got != want {
			t.Fatalf("Simple(%#x) = %#x, want %#x", r, got, want)
		}
		wantFull := []int{r}
		for _, l := range [][]int{full[r], common[r]} {
			if len(l) > 0 {
				wantFull = l
			}
		}
		if got := fold.Full(x, r); !slices.Equal(got, wantFull) {
			t.Fatalf("Full(%#x) = %x, want %x", r, got, wantFull)
		}
	}
	for _, r := range noCodePoints() {
		if got := fold.Simple(x, r); got != r {
			t.Errorf("Simple(%#x) = %#x", r, got)
		}
		if got := fold.Full(x, r); !slices.Equal(got, []int{r}) {
			t.Errorf("Full(%#x) = %x", r, got)
		}
	}
}

func TestClosureExamples(t *testing.T) { // P9.2
	x := props.Load()
	all := []api.Range{{Lo: 0, Hi: api.MaxRune}}
	k := []api.Range{{Lo: 'K', Hi: 'K'}, {Lo: 'k', Hi: 'k'}, {Lo: 0x212a, Hi: 0x212a}}
	letters := []api.Range{{Lo: 'A', Hi: 'Z'}, {Lo: 'a', Hi: 'z'}, {Lo: 0x17f, Hi: 0x17f}, {Lo: 0x212a, Hi: 0x212a}}
	for _, c := range []struct{ a, want []api.Range }{
		{nil, nil}, {[]api.Range{}, nil},
		{[]api.Range{{Lo: 'k', Hi: 'k'}}, k}, {[]api.Range{{Lo: 'K', Hi: 'K'}}, k}, {[]api.Range{{Lo: 0x212a, Hi: 0x212a}}, k},
		{[]api.Range{{Lo: 'a', Hi: 'z'}}, letters}, {[]api.Range{{Lo: 'A', Hi: 'Z'}}, letters},
		{[]api.Range{{Lo: '0', Hi: '9'}}, []api.Range{{Lo: '0', Hi: '9'}}},
		{[]api.Range{{Lo: 0xdf, Hi: 0xdf}}, []api.Range{{Lo: 0xdf, Hi: 0xdf}, {Lo: 0x1e9e, Hi: 0x1e9e}}}, // not with s: that is full
		{[]api.Range{{Lo: 0x130, Hi: 0x131}}, []api.Range{{Lo: 0x130, Hi: 0x131}}},
		{[]api.Range{{Lo: 0x1c5, Hi: 0x1c5}}, []api.Range{{Lo: 0x1c4, Hi: 0x1c6}}},
		{[]api.Range{{Lo: 0x3c2, Hi: 0x3c2}}, []api.Range{{Lo: 0x3a3, Hi: 0x3a3}, {Lo: 0x3c2, Hi: 0x3c3}}},
		{[]api.Range{{Lo: 0xb5, Hi: 0xb5}}, []api.Range{{Lo: 0xb5, Hi: 0xb5}, {Lo: 0x39c, Hi: 0x39c}, {Lo: 0x3bc, Hi: 0x3bc}}},
		{[]api.Range{{Lo: 0xd800, Hi: 0xdfff}}, []api.Range{{Lo: 0xd800, Hi: 0xdfff}}},
		{all, all}, {[]api.Range{{Lo: math.MinInt, Hi: math.MaxInt}}, all},
		{[]api.Range{{Lo: 'k', Hi: 'j'}, {Lo: math.MaxInt, Hi: math.MinInt}, {Lo: math.MinInt, Hi: -1}, {Lo: api.MaxRune + 1, Hi: math.MaxInt}}, nil},
		{[]api.Range{{Lo: 0x212a, Hi: 0x212a}, {Lo: 'k', Hi: 'k'}, {Lo: 'k', Hi: 'k'}}, k}, // any list means a set
		{[]api.Range{{Lo: '8', Hi: '9'}, {Lo: '0', Hi: '7'}}, []api.Range{{Lo: '0', Hi: '9'}}},
	} {
		if got := fold.Closure(x, c.a); !slices.Equal(got, c.want) {
			t.Errorf("Closure(%x) = %x, want %x", c.a, got, c.want)
		}
	}
}

func TestClosure(t *testing.T) { // P9.2
	x := props.Load()
	simple := simples(t)
	for _, a := range lists(t) {
		if got, want := fold.Closure(x, a), closed(simple, a); !slices.Equal(got, want) {
			t.Errorf("Closure(%x) = %x, want %x", a, got, want)
		}
	}
}

func TestClosureOfOne(t *testing.T) { // P9.2
	x := props.Load()
	groups := map[int][]api.Range{} // by the folding that they have in common
	simple := simples(t)
	for r, to := range simple {
		groups[to] = append(groups[to], api.Range{Lo: r, Hi: r})
	}
	for _, r := range interesting(t) {
		want := ranges.Make(groups[simple[r]])
		if got := fold.Closure(x, []api.Range{{Lo: r, Hi: r}}); !slices.Equal(got, want) {
			t.Errorf("Closure of %#x = %x, want %x", r, got, want)
		}
	}
}

func TestSame(t *testing.T) { // P9.2
	x := props.Load()
	simple := simples(t)
	points := interesting(t)
	for _, a := range points {
		for _, b := range points {
			if got, want := fold.Same(x, a, b), simple[a] == simple[b]; got != want {
				t.Errorf("Same(%#x, %#x) = %v", a, b, got)
			}
		}
		for _, b := range noCodePoints() {
			if fold.Same(x, a, b) || fold.Same(x, b, a) {
				t.Errorf("Same(%#x, %#x)", a, b)
			}
		}
	}
	for _, c := range []struct {
		a, b int
		want bool
	}{{'k', 0x212a, true}, {'K', 0x212a, true}, {0x3c2, 0x3a3, true}, {0xdf, 0x1e9e, true}, {'a', 'b', false}, {'i', 0x130, false}, {'s', 0xdf, false}, {0xfb00, 'f', false}, {-1, -1, true}, {-1, 0, false}} {
		if got := fold.Same(x, c.a, c.b); got != c.want {
			t.Errorf("Same(%#x, %#x) = %v", c.a, c.b, got)
		}
	}
}

func TestClosureOfClosure(t *testing.T) { // P9.3
	x := props.Load()
	for _, a := range lists(t) {
		got := fold.Closure(x, a)
		if again := fold.Closure(x, got); !slices.Equal(again, got) {
			t.Errorf("Closure(%x) = %x, of which it is %x", a, got, again)
		}
		if !ranges.Can(got) || len(ranges.Minus(a, got)) > 0 {
			t.Errorf("Closure(%x) = %x is no set, or has not all of it", a, got)
		}
	}
}

func TestFoldingFoldsToItself(t *testing.T) { // P9.4
	x := props.Load()
	for r := range api.MaxRune + 1 {
		to := fold.Simple(x, r)
		if got := fold.Simple(x, to); got != to {
			t.Fatalf("%#x folds to %#x, that to %#x", r, to, got)
		}
		for _, to := range fold.Full(x, r) {
			if got := fold.Full(x, to); !slices.Equal(got, []int{to}) {
				t.Fatalf("%#x folds fully to %#x, that to %x", r, to, got)
			}
		}
	}
}

func TestTablesThatNoCallMade(t *testing.T) { // Objects
	for name, x := range map[string]*props.Tables{"nil": nil, "plain": {}} {
		for _, r := range append(noCodePoints(), 0, 'A', 'a', 0xdf, api.MaxRune) {
			if got := fold.Simple(x, r); got != 0 {
				t.Errorf("%s tables: Simple(%#x) = %#x", name, r, got)
			}
			if got := fold.Full(x, r); len(got) != 0 {
				t.Errorf("%s tables: Full(%#x) = %x", name, r, got)
			}
			if fold.Same(x, r, r) || fold.Same(x, r, 'a') {
				t.Errorf("%s tables: Same of %#x", name, r)
			}
			if got := fold.Closure(x, []api.Range{{Lo: r, Hi: r}, {Lo: 0, Hi: 'z'}}); len(got) != 0 {
				t.Errorf("%s tables: Closure = %x", name, got)
			}
		}
	}
}

func TestMemory(t *testing.T) { // Memory
	x := props.Load()
	for _, room := range [][]api.Range{
		{{Lo: 'x', Hi: 'z'}, {Lo: 'A', Hi: 'C'}, {Lo: 5, Hi: 5}, {Lo: 6, Hi: 6}},   // the last two stand behind the list's end
		{{Lo: '0', Hi: '9'}, {Lo: 0xd7, Hi: 0xd7}, {Lo: 5, Hi: 5}, {Lo: 6, Hi: 6}}, // a closure already
	} {
		before, a := slices.Clone(room), room[:2]
		got := fold.Closure(x, a)
		want := slices.Clone(got)
		if !slices.Equal(room, before) {
			t.Errorf("Closure changed what it was handed: %x", room)
		}
		spoil(fold.Closure(x, a), api.Range{Lo: -7})
		spoil(a, api.Range{Lo: -7})
		if !slices.Equal(got, want) {
			t.Error("an answer shares memory with an argument or another answer")
		}
		spoil(got, api.Range{Lo: -7})
		if again := fold.Closure(x, before[:2]); !slices.Equal(again, want) {
			t.Errorf("Closure has become %x", again)
		}
	}
	for _, r := range []int{'A', 'a', 0xdf, 0xfb03} {
		got := fold.Full(x, r)
		want := slices.Clone(got)
		spoil(fold.Full(x, r), -7)
		if !slices.Equal(got, want) || !slices.Equal(fold.Full(x, r), want) {
			t.Errorf("answers of Full(%#x) share memory", r)
		}
	}
}
