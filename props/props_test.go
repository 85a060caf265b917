package props_test

import (
	"math"
	"slices"
	"strconv"
	"strings"
	"testing"

	"rubricator/api"
	"rubricator/props"
	"rubricator/ranges"
)

// said is a line of a file, read without the layers.
type said struct {
	lo, hi int
	fields []string
}

func read(t *testing.T, file string) []said {
	t.Helper()
	var out []said
	for line := range strings.SplitSeq(file, "\n") {
		if line == "" || line[0] == '#' {
			continue
		}
		f := strings.Split(line, " ; ")
		lo, hi, two := strings.Cut(f[0], "..")
		if !two {
			hi = lo
		}
		out = append(out, said{hex(t, lo), hex(t, hi), f[1:]})
	}
	if len(out) == 0 {
		t.Fatal("an empty file")
	}
	return out
}

func hex(t *testing.T, s string) int {
	t.Helper()
	n, err := strconv.ParseInt(s, 16, 64)
	if err != nil {
		t.Fatal(err)
	}
	return int(n)
}

// each is what a file's first field says of each code point, with none where it says nothing.
func each(t *testing.T, file, none string) []string {
	t.Helper()
	out := slices.Repeat([]string{none}, api.MaxRune+1)
	for _, x := range read(t, file) {
		for r := x.lo; r <= x.hi; r++ {
			if out[r] != none {
				t.Fatalf("the file tells of %#x twice", r) // nothing says which one would hold
			}
			out[r] = x.fields[0]
		}
	}
	return out
}

// listed is code points parted by blanks.
func listed(t *testing.T, s string) []int {
	t.Helper()
	var out []int
	for _, f := range strings.Split(s, " ") {
		out = append(out, hex(t, f))
	}
	return out
}

// wantFold is what the records with one of the statuses fold each code point to.
func wantFold(t *testing.T, statuses string) map[int][]int {
	t.Helper()
	out := map[int][]int{}
	for _, x := range read(t, api.Folding()) {
		if !strings.Contains(statuses, x.fields[0]) {
			continue
		}
		to := listed(t, x.fields[1])
		if len(to) > 1 && x.lo != x.hi {
			t.Fatalf("several code points of several from %#x on", x.lo) // nothing says which one would go along
		}
		for r := x.lo; r <= x.hi; r++ {
			if out[r] != nil {
				t.Fatalf("%#x folds twice", r)
			}
			out[r] = slices.Clone(to)
			to[0]++
		}
	}
	return out
}

// setOf is the set of all code points for which in holds.
func setOf(in func(r int) bool) []api.Range {
	var out []api.Range
	for r := range api.MaxRune + 1 {
		if !in(r) {
			continue
		}
		if last := len(out) - 1; last >= 0 && out[last].Hi == r-1 {
			out[last].Hi = r
			continue
		}
		out = append(out, api.Range{Lo: r, Hi: r})
	}
	return out
}

// noCodePoints is numbers beside all code points.
func noCodePoints() []int {
	return []int{math.MinInt, math.MinInt32, -0xac00, -1, api.MaxRune + 1, 0x200041, 1 << 32, 1<<32 + 0x41, math.MaxInt}
}

func TestText(t *testing.T) { // P6.1, P6.2
	x := props.Load()
	for _, c := range []struct {
		name       string
		of         func(r int) string
		file, none string
	}{
		{"Category", x.Category, api.Categories(), "Cn"},
		{"Script", x.Script, api.Scripts(), "Zzzz"},
		{"Word", x.Word, api.WordBreaks(), ""},
	} {
		for r, want := range each(t, c.file, c.none) {
			if got := c.of(r); got != want {
				t.Fatalf("%s(%#x) = %q, want %q", c.name, r, got, want)
			}
		}
		for _, r := range noCodePoints() {
			if got := c.of(r); got != c.none {
				t.Errorf("%s(%#x) = %q", c.name, r, got)
			}
		}
	}
}

func TestExamples(t *testing.T) { // P6.1, P6.2, P6.3
	x := props.Load()
	for _, c := range []struct{ got, want string }{
		{x.Category(0x41), "Lu"}, {x.Category('a'), "Ll"}, {x.Category(0), "Cc"}, {x.Category(0x378), "Cn"}, {x.Category(0xd800), "Cn"}, {x.Category(api.MaxRune), "Cn"}, {x.Category(0x1f64f), "So"}, {x.Category(0x1f650), "Cn"},
		{x.Script('A'), "Latn"}, {x.Script('1'), "Zzzz"}, {x.Script(0x3b1), "Grek"}, {x.Script(api.MaxRune), "Zzzz"},
		{x.Cluster('a'), ""}, {x.Cluster(0xd), "CR"}, {x.Cluster(0x1100), "L"}, {x.Word('7'), "Numeric"}, {x.Word(0x4e00), ""}, {x.Word(0xac00), "Letter"},
	} {
		if c.got != c.want {
			t.Errorf("%q, want %q", c.got, c.want)
		}
	}
	for _, c := range []struct{ got, want []int }{
		{x.Fold(0xdf, true), []int{0x73, 0x73}}, {x.Fold(0xdf, false), []int{0xdf}}, {x.Fold('B', true), []int{'b'}}, {x.Fold('B', false), []int{'b'}}, {x.Fold('Z', false), []int{'z'}}, {x.Fold('[', false), []int{'['}},
		{x.Fold(0x1e9e, true), []int{0x73, 0x73}}, {x.Fold(0x1e9e, false), []int{0xdf}}, {x.Fold(0xfb03, true), []int{0x66, 0x66, 0x69}}, {x.Fold('b', true), []int{'b'}},
		{x.Parts(0xe9), []int{0x65, 0x301}}, {x.Parts(0x1e69), []int{0x1e63, 0x307}}, {x.Parts(0x212a), []int{0x4b}}, {x.Parts('e'), nil}, {x.Parts(0xac01), nil},
	} {
		if !slices.Equal(c.got, c.want) {
			t.Errorf("%x, want %x", c.got, c.want)
		}
	}
}

func TestCombining(t *testing.T) { // P6.1, P6.2
	x := props.Load()
	for r, s := range each(t, api.Combining(), "0") {
		want, err := strconv.Atoi(s)
		if err != nil {
			t.Fatal(err)
		}
		if got := x.Combining(r); got != want {
			t.Fatalf("Combining(%#x) = %d, want %d", r, got, want)
		}
	}
	for _, r := range noCodePoints() {
		if got := x.Combining(r); got != 0 {
			t.Errorf("Combining(%#x) = %d", r, got)
		}
	}
}

func TestCluster(t *testing.T) { // P6.1, P6.2
	x := props.Load()
	for r, want := range each(t, api.Clusters(), "") {
		if r >= 0xac00 && r <= 0xd7a3 {
			want = "LVT"
			if (r-0xac00)%28 == 0 {
				want = "LV"
			}
		}
		if got := x.Cluster(r); got != want {
			t.Fatalf("Cluster(%#x) = %q, want %q", r, got, want)
		}
	}
	for _, r := range noCodePoints() {
		if got := x.Cluster(r); got != "" {
			t.Errorf("Cluster(%#x) = %q", r, got)
		}
	}
}

func TestParts(t *testing.T) { // P6.1, P6.2
	x := props.Load()
	want := map[int][]int{}
	for _, d := range read(t, api.Decompositions()) {
		for r := d.lo; r <= d.hi; r++ {
			want[r] = listed(t, d.fields[0])
		}
	}
	for r := range api.MaxRune + 1 {
		if got := x.Parts(r); !slices.Equal(got, want[r]) {
			t.Fatalf("Parts(%#x) = %x, want %x", r, got, want[r])
		}
	}
	for _, r := range noCodePoints() {
		if got := x.Parts(r); len(got) != 0 {
			t.Errorf("Parts(%#x) = %x", r, got)
		}
	}
}

func TestFold(t *testing.T) { // P6.1, P6.3
	x := props.Load()
	for full, statuses := range map[bool]string{true: "CF", false: "CS"} {
		table := wantFold(t, statuses)
		for r := range api.MaxRune + 1 {
			want, ok := table[r]
			if !ok {
				want = []int{r}
			}
			if got := x.Fold(r, full); !slices.Equal(got, want) {
				t.Fatalf("Fold(%#x, %v) = %x, want %x", r, full, got, want)
			}
		}
		for _, r := range noCodePoints() {
			if got := x.Fold(r, full); !slices.Equal(got, []int{r}) {
				t.Errorf("Fold(%#x, %v) = %x", r, full, got)
			}
		}
	}
}

func TestSetsOfCategories(t *testing.T) { // P6.4
	x := props.Load()
	category := each(t, api.Categories(), "Cn")
	for _, line := range strings.Split(api.Aliases(), "\n") {
		f := strings.Split(line, " ; ")
		if f[0] != "gc" {
			continue
		}
		want := setOf(func(r int) bool { return category[r] == f[1] || len(f[1]) == 1 && category[r][:1] == f[1] })
		for _, s := range []string{f[1], f[2], "gc=" + f[1], "General_Category:" + f[2], "is" + strings.ToUpper(f[2])} {
			if got, e := x.Set(s); e != api.OK || !slices.Equal(got, want) {
				t.Errorf("Set(%q) = %x, %d, want %x", s, got, e, want)
			}
		}
	}
}

func TestSetsOfScripts(t *testing.T) { // P6.4
	x := props.Load()
	script := each(t, api.Scripts(), "Zzzz")
	for _, line := range strings.Split(api.Aliases(), "\n") {
		f := strings.Split(line, " ; ")
		if f[0] != "sc" {
			continue
		}
		want := setOf(func(r int) bool { return script[r] == f[1] })
		for _, s := range []string{f[1], f[2], "sc=" + f[1], "Script:" + f[2], "is " + strings.ToLower(f[2])} {
			if got, e := x.Set(s); e != api.OK || !slices.Equal(got, want) {
				t.Errorf("Set(%q) = %x, %d, want %x", s, got, e, want)
			}
		}
	}
}

func TestBinarySets(t *testing.T) { // P6.4
	x := props.Load()
	category := each(t, api.Categories(), "Cn")
	white := []int{9, 0xa, 0xb, 0xc, 0xd, 0x20, 0x85, 0xa0, 0x2028, 0x2029}
	for _, c := range []struct {
		names []string
		in    func(r int) bool
	}{
		{[]string{"Any", "any", "isAny"}, func(int) bool { return true }},
		{[]string{"ASCII", "ascii"}, func(r int) bool { return r <= 0x7f }},
		{[]string{"Alpha", "Alphabetic"}, func(r int) bool { return category[r][0] == 'L' || category[r] == "Nl" }},
		{[]string{"Lower", "lowercase"}, func(r int) bool { return category[r] == "Ll" }},
		{[]string{"Upper", "UPPERCASE"}, func(r int) bool { return category[r] == "Lu" }},
		{[]string{"space", "White_Space", "is white-space"}, func(r int) bool { return slices.Contains(white, r) }},
	} {
		want := setOf(c.in)
		for _, s := range c.names {
			if got, e := x.Set(s); e != api.OK || !slices.Equal(got, want) {
				t.Errorf("Set(%q) = %x, %d, want %x", s, got, e, want)
			}
		}
	}
}

func TestSetFaults(t *testing.T) { // P6.4
	x := props.Load()
	for _, c := range []struct {
		s    string
		want api.Errno
	}{
		{"", api.ErrName}, {"nothing", api.ErrName}, {"foo=L", api.ErrName}, {"gc", api.ErrName}, {"bi=Any", api.ErrName}, {"\xff", api.ErrName},
		{"gc=", api.ErrValue}, {"gc=Latin", api.ErrValue}, {"sc=L", api.ErrValue}, {"sc=space", api.ErrValue}, {"gc=Any", api.ErrValue},
	} {
		if got, e := x.Set(c.s); len(got) != 0 || e != c.want {
			t.Errorf("Set(%q) = %x, %d, want error %d alone", c.s, got, e, c.want)
		}
	}
}

func TestEachIsInItsSets(t *testing.T) { // P6.5
	x := props.Load()
	sets := map[string][]api.Range{}
	in := func(expression string, r int) bool {
		set, known := sets[expression]
		if !known {
			var e api.Errno
			if set, e = x.Set(expression); e != api.OK || !ranges.Can(set) {
				t.Fatalf("Set(%q) = %x, %d", expression, set, e)
			}
			sets[expression] = set
		}
		return ranges.Has(set, r)
	}
	for r := range api.MaxRune + 1 {
		category, script := x.Category(r), x.Script(r)
		for _, expression := range []string{category, category[:1], "gc=" + category, "sc=" + script, "Script:" + script} {
			if !in(expression, r) {
				t.Fatalf("%#x is not in Set(%q)", r, expression)
			}
		}
	}
	sum := 0
	for expression, set := range sets {
		if strings.HasPrefix(expression, "gc=") {
			sum += ranges.Size(set)
		}
	}
	if sum != api.MaxRune+1 {
		t.Errorf("the sets of all categories have %d code points together", sum)
	}
}

func TestTablesThatNoCallMade(t *testing.T) { // Objects
	for name, x := range map[string]*props.Tables{"nil": nil, "plain": {}} {
		for _, r := range append(noCodePoints(), 0, 'A', 0xdf, 0xe9, 0x301, 0x378, 0xac00, 0xac01, api.MaxRune) {
			if x.Category(r) != "" || x.Combining(r) != 0 || x.Script(r) != "" || x.Cluster(r) != "" || x.Word(r) != "" {
				t.Errorf("%s tables tell of %#x", name, r)
			}
			if len(x.Parts(r)) != 0 || len(x.Fold(r, true)) != 0 || len(x.Fold(r, false)) != 0 {
				t.Errorf("%s tables make something of %#x", name, r)
			}
		}
		for _, s := range []string{"Lu", "Cn", "Any", "sc=Zzzz", "nothing", "gc=", ""} {
			if got, e := x.Set(s); len(got) != 0 || e != api.ErrNil {
				t.Errorf("%s tables: Set(%q) = %x, %d", name, s, got, e)
			}
		}
	}
}

// spoil writes all over a list, its spare room too.
func spoil[T any](l []T, with T) {
	l = l[:cap(l)]
	for i := range l {
		l[i] = with
	}
}

func TestAnswersAreNew(t *testing.T) { // Memory
	x, y := props.Load(), props.Load()
	if x == y {
		t.Error("two calls of Load answer one object")
	}
	points := []int{'A', 'a', 0xc9, 0xdf, 0x130, 0x1e69, 0x1e9e, 0x212b, 0xfb03}
	for _, r := range points {
		spoil(x.Parts(r), -7)
		spoil(x.Fold(r, true), -7)
		spoil(x.Fold(r, false), -7)
	}
	expressions := []string{"Any", "ASCII", "Alpha", "Lower", "Upper", "space", "L", "Lu", "C", "Cn", "Zl", "Grek", "Zzzz"}
	for _, s := range expressions {
		l, _ := x.Set(s)
		again, _ := x.Set(s)
		spoil(l, api.Range{Lo: -7, Hi: -7})
		if ranges.Has(again, -7) || slices.Contains(again, api.Range{Lo: -7, Hi: -7}) {
			t.Errorf("two answers of Set(%q) share memory", s)
		}
	}
	for _, z := range []*props.Tables{x, props.Load()} {
		for _, r := range points {
			if !slices.Equal(z.Parts(r), y.Parts(r)) || !slices.Equal(z.Fold(r, true), y.Fold(r, true)) || !slices.Equal(z.Fold(r, false), y.Fold(r, false)) {
				t.Errorf("what is said of %#x has changed", r)
			}
		}
		for _, s := range expressions {
			got, _ := z.Set(s)
			want, _ := y.Set(s)
			if len(got) == 0 || !slices.Equal(got, want) {
				t.Errorf("Set(%q) has changed", s)
			}
		}
	}
}
