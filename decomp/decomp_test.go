package decomp_test

import (
	"math"
	"slices"
	"strconv"
	"strings"
	"testing"

	"rubricator/api"
	"rubricator/decomp"
	"rubricator/props"
)

// fileParts is what the file says, read without the layers.
func fileParts(t *testing.T) map[int][]int {
	t.Helper()
	out := map[int][]int{}
	for line := range strings.SplitSeq(api.Decompositions(), "\n") {
		if line == "" || line[0] == '#' {
			continue
		}
		of, parts, _ := strings.Cut(line, " ; ")
		for s := range strings.SplitSeq(parts, " ") {
			out[hex(t, of)] = append(out[hex(t, of)], hex(t, s))
		}
	}
	if len(out) == 0 {
		t.Fatal("an empty file")
	}
	return out
}

func hex(t *testing.T, s string) int {
	t.Helper()
	n, err := strconv.ParseInt(s, 16, 64)
	if err != nil {
		t.Fatal(err)
	}
	return int(n)
}

// wanted is what each code point is made of in the end, by the file and by counting syllables up.
func wanted(t *testing.T) [][]int {
	t.Helper()
	file := fileParts(t)
	var apart func(r int) []int
	apart = func(r int) []int {
		if file[r] == nil {
			return []int{r}
		}
		var out []int
		for _, p := range file[r] {
			out = append(out, apart(p)...)
		}
		return out
	}
	out := make([][]int, api.MaxRune+1)
	for r := range out {
		out[r] = apart(r)
	}
	s := 0xac00
	for lead := 0x1100; lead <= 0x1112; lead++ {
		for vowel := 0x1161; vowel <= 0x1175; vowel++ {
			out[s] = []int{lead, vowel}
			s++
			for tail := 0x11a8; tail <= 0x11c2; tail++ {
				out[s] = []int{lead, vowel, tail}
				s++
			}
		}
	}
	if s != 0xd7a4 {
		t.Fatalf("the syllables end ahead of %#x", s)
	}
	return out
}

// noCodePoints is numbers beside all code points.
func noCodePoints() []int {
	return []int{math.MinInt, math.MinInt32, -0xac00, -1, api.MaxRune + 1, 0x20ac00, 1 << 32, 1<<32 + 0xac01, 1<<32 + 0xe9, math.MaxInt}
}

// spoil writes all over a list, its spare room too.
func spoil(l []int) {
	l = l[:cap(l)]
	for i := range l {
		l[i] = -7
	}
}

func TestExamples(t *testing.T) { // P7.1
	x := props.Load()
	for r, want := range map[int][]int{
		0x1e69: {0x73, 0x323, 0x307}, 0x1e68: {0x53, 0x323, 0x307}, 0x1d5: {0x55, 0x308, 0x304}, 0x212b: {0x41, 0x30a}, // in two steps
		0xe9: {0x65, 0x301}, 0x344: {0x308, 0x301}, 0x304e: {0x304d, 0x3099}, 0x2126: {0x3a9}, 0x212a: {0x4b},
		'a': {'a'}, 0: {0}, 0x301: {0x301}, 0xd800: {0xd800}, 0xdfff: {0xdfff}, api.MaxRune: {api.MaxRune},
		0xabff: {0xabff}, 0xac00: {0x1100, 0x1161}, 0xac01: {0x1100, 0x1161, 0x11a8}, 0xac1b: {0x1100, 0x1161, 0x11c2}, 0xac1c: {0x1100, 0x1162},
		0xae4b: {0x1100, 0x1175, 0x11c2}, 0xae4c: {0x1101, 0x1161}, 0xd55c: {0x1112, 0x1161, 0x11ab}, 0xd7a3: {0x1112, 0x1175, 0x11c2}, 0xd7a4: {0xd7a4},
	} {
		if got := decomp.Full(x, r); !slices.Equal(got, want) {
			t.Errorf("Full(%#x) = %x, want %x", r, got, want)
		}
	}
}

func TestFull(t *testing.T) { // P7.1
	x := props.Load()
	for r, want := range wanted(t) {
		if got := decomp.Full(x, r); !slices.Equal(got, want) {
			t.Fatalf("Full(%#x) = %x, want %x", r, got, want)
		}
	}
	for _, r := range noCodePoints() {
		if got := decomp.Full(x, r); !slices.Equal(got, []int{r}) {
			t.Errorf("Full(%#x) = %x", r, got)
		}
	}
}

func TestMembers(t *testing.T) { // P7.2
	want := []int{
		0xc0, 0xc1, 0xc2, 0xc4, 0xc5, 0xc7, 0xc9, 0xd1, 0xd6, 0xdc, 0xe0, 0xe1, 0xe2, 0xe4, 0xe5, 0xe7, 0xe9, 0xf1, 0xf6, 0xfc,
		0x100, 0x101, 0x130, 0x1d5, 0x1d6, 0x344, 0x3ac, 0x1e62, 0x1e63, 0x1e68, 0x1e69, 0x212b, 0x304c, 0x304e,
	}
	if got := decomp.Members(props.Load()); !slices.Equal(got, want) {
		t.Errorf("Members = %x, want %x", got, want)
	}
}

func TestSingles(t *testing.T) { // P7.2
	if got := decomp.Singles(props.Load()); !slices.Equal(got, []int{0x2126, 0x212a}) {
		t.Errorf("Singles = %x", got)
	}
}

func TestMembersAndSinglesAreAllWithParts(t *testing.T) { // P7.2
	x := props.Load()
	var members, singles []int
	for r := range api.MaxRune + 1 {
		switch {
		case len(x.Parts(r)) == 0:
		case len(decomp.Full(x, r)) > 1:
			members = append(members, r)
		default:
			singles = append(singles, r)
		}
	}
	if got := decomp.Members(x); !slices.Equal(got, members) {
		t.Errorf("Members = %x, want %x", got, members)
	}
	if got := decomp.Singles(x); !slices.Equal(got, singles) {
		t.Errorf("Singles = %x, want %x", got, singles)
	}
}

func TestWhatIsToldIsMadeOfNothingElse(t *testing.T) { // P7.3
	x := props.Load()
	for r := range api.MaxRune + 1 {
		for _, p := range decomp.Full(x, r) {
			if got := decomp.Full(x, p); !slices.Equal(got, []int{p}) || len(x.Parts(p)) > 0 || p >= 0xac00 && p <= 0xd7a3 {
				t.Fatalf("Full(%#x) has %#x, of which Full is %x", r, p, got)
			}
		}
	}
}

func TestTablesThatNoCallMade(t *testing.T) { // Objects
	for name, x := range map[string]*props.Tables{"nil": nil, "plain": {}} {
		for _, r := range append(noCodePoints(), 0, 'a', 0xe9, 0x1e69, 0x2126, 0xac00, 0xac01, api.MaxRune) {
			if got := decomp.Full(x, r); len(got) != 0 {
				t.Errorf("%s tables: Full(%#x) = %x", name, r, got)
			}
		}
		if got := decomp.Members(x); len(got) != 0 {
			t.Errorf("%s tables: Members = %x", name, got)
		}
		if got := decomp.Singles(x); len(got) != 0 {
			t.Errorf("%s tables: Singles = %x", name, got)
		}
	}
}

func TestAnswersAreNew(t *testing.T) { // Memory
	x := props.Load()
	points := []int{'a', 0xe9, 0x1e69, 0x212b, 0x2126, 0xac00, 0xac01}
	var before [][]int
	for _, r := range points {
		before = append(before, decomp.Full(x, r))
	}
	members, singles := decomp.Members(x), decomp.Singles(x)
	want := slices.Concat(append(before, members, singles)...)
	for _, r := range points {
		spoil(decomp.Full(x, r))
	}
	spoil(decomp.Members(x))
	spoil(decomp.Singles(x))
	if !slices.Equal(slices.Concat(append(before, members, singles)...), want) {
		t.Error("answers share memory with later ones")
	}
	for i, r := range points {
		if !slices.Equal(decomp.Full(x, r), before[i]) {
			t.Errorf("Full(%#x) has changed", r)
		}
	}
	if !slices.Equal(decomp.Members(x), members) || !slices.Equal(decomp.Singles(x), singles) {
		t.Error("Members or Singles have changed")
	}
}
