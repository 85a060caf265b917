package word_test

import (
	"math"
	"slices"
	"strings"
	"testing"

	"rubricator/api"
	"rubricator/props"
	"rubricator/word"
)

// unit is a code point's break and where it stands, with the Extends, Formats and ZWJs behind it taken along: edges in another way, without looking past anything.
type unit struct {
	name string
	at   int
}

func among(x string, l ...string) bool { return slices.Contains(l, x) }

func isLineEnd(name string) bool { return among(name, "CR", "LF", "Newline") }
func isPassed(name string) bool  { return among(name, "Extend", "Format", "ZWJ") }

// units is those of breaks. One that would be taken along, but that nothing stands ahead of, is a unit that no rule speaks of.
func units(names []string) []unit {
	var out []unit
	for at, name := range names {
		switch {
		case !isPassed(name):
			out = append(out, unit{name, at})
		case at == 0 || isLineEnd(names[at-1]):
			out = append(out, unit{"alone", at})
		}
	}
	return out
}

// reckoned is of each place whether it is an edge: those at which units begin, but for those that the rules join.
func reckoned(x *props.Tables, l []int) []bool {
	out := make([]bool, len(l)+1)
	if len(l) == 0 {
		return out
	}
	out[len(l)] = true
	names := make([]string, len(l))
	for i, r := range l {
		names[i] = x.Word(r)
	}
	u := units(names)
	flags := 0 // in a row ahead of the unit
	for i, y := range u {
		out[y.at] = i == 0 || !touch(names[y.at-1], y.name) && !joined(u, i, flags)
		if y.name == "Flag" {
			flags++
		} else {
			flags = 0
		}
	}
	return out
}

// touch tells whether rules 2, 4 and 5 join two code points.
func touch(ahead, behind string) bool {
	return ahead == "CR" && behind == "LF" || ahead == "ZWJ" && behind == "Pictographic" || ahead == "Space" && behind == "Space"
}

// joined tells whether rules 7 to 10 join a unit to the one ahead of it.
func joined(u []unit, i, flags int) bool {
	name := func(i int) string {
		if i < 0 || i >= len(u) {
			return ""
		}
		return u[i].name
	}
	before, ahead, behind, after := name(i-2), name(i-1), name(i), name(i+1)
	letter := func(name string) bool { return among(name, "Letter", "Hebrew") }
	inWord := func(name string) bool { return among(name, "MidLetter", "MidNumLet", "SingleQuote") }
	inNumber := func(name string) bool { return among(name, "MidNum", "MidNumLet", "SingleQuote") }
	switch {
	case letter(ahead) && letter(behind):
	case letter(ahead) && inWord(behind) && letter(after):
	case letter(before) && inWord(ahead) && letter(behind):
	case ahead == "Hebrew" && behind == "SingleQuote":
	case ahead == "Hebrew" && behind == "DoubleQuote" && after == "Hebrew":
	case before == "Hebrew" && ahead == "DoubleQuote" && behind == "Hebrew":
	case ahead == "Numeric" && (behind == "Numeric" || letter(behind)), letter(ahead) && behind == "Numeric":
	case ahead == "Numeric" && inNumber(behind) && after == "Numeric":
	case before == "Numeric" && inNumber(ahead) && behind == "Numeric":
	case ahead == "Katakana" && behind == "Katakana":
	case behind == "Joiner" && (letter(ahead) || among(ahead, "Numeric", "Katakana", "Joiner")):
	case ahead == "Joiner" && (letter(behind) || among(behind, "Numeric", "Katakana")):
	case behind == "Flag" && flags%2 == 1:
	default:
		return false
	}
	return true
}

// alphabet has one code point of each break, and one without.
func alphabet() []int {
	return []int{'a', 0x5d0, '1', 0x30a1, '_', 0x27, 0x22, '.', ':', ',', ' ', 0xd, 0xa, 0x85, 0x301, 0xad, 0x200d, 0x2764, 0x1f1e6, '-'}
}

// lists tells all lists of up to so many of an alphabet.
func lists(letters []int, most int, tell func(l []int)) {
	var grow func(l []int)
	grow = func(l []int) {
		tell(l)
		if len(l) == most {
			return
		}
		for _, r := range letters {
			grow(append(slices.Clip(l), r))
		}
	}
	grow(nil)
}

// told is of each place of a list, as a text of 1 and 0, whether f holds there.
func told(x *props.Tables, l []int, f func(*props.Tables, []int, int) bool) string {
	var out []byte
	for at := range len(l) + 1 {
		if f(x, l, at) {
			out = append(out, '1')
		} else {
			out = append(out, '0')
		}
	}
	return string(out)
}

// check holds Edge of a list against what is reckoned.
func check(t *testing.T, x *props.Tables, l []int) {
	t.Helper()
	for at, want := range reckoned(x, l) {
		if got := word.Edge(x, l, at); got != want {
			t.Fatalf("Edge(%x, %d) = %v", l, at, got)
		}
	}
}

func points(text string) []int {
	var out []int
	for _, r := range text {
		out = append(out, int(r))
	}
	return out
}

func TestEdge(t *testing.T) { // P11.1
	x := props.Load()
	for _, c := range []struct {
		rule       int
		text, want string
	}{
		{1, "", "0"}, {1, "a", "11"}, {1, "\u0301", "11"}, {1, "\u200d", "11"}, {1, "\r", "11"}, {1, "--", "111"},
		{2, "\r\n", "101"}, {2, "\n\r", "111"}, {2, "\r\r\n\n", "11011"}, {2, "\r\u0301\n", "1111"},
		{3, "a\n\u0301", "1111"}, {3, "\r\u200d", "111"}, {3, "\u0085\u00ad", "111"}, {3, "a\va", "1111"}, {3, "\n\n", "111"}, {3, "\u2028\u2029", "111"},
		{4, "\u200d\u2764", "101"}, {4, "a\u200d\u2764", "1001"}, {4, "\u200d\u0301\u2764", "1011"}, {4, "\u2764\u2764", "111"}, {4, "\n\u200d\u2764", "1101"}, {4, "\u2764\u200da", "1011"},
		{5, "a  b", "11011"}, {5, "   ", "1001"}, {5, " \u0301 ", "1011"}, {5, "  \u0301", "1001"}, {5, " \u00a0", "111"},
		{6, "a\u0301b", "1001"}, {6, "-\u0301\u00ad\u200d-", "100011"}, {6, "\u0301a", "111"}, {6, "\n\u0301\u0301a", "11011"}, {6, "\u0301\u0301", "101"}, {6, " \u0301", "101"}, {6, "a\n\u0301a", "11111"},
		{7, "abc", "1001"}, {7, "a\u05d0a", "1001"}, {7, "can't", "100001"}, {7, "a:b", "1001"}, {7, "a.b", "1001"}, {7, "a\u2019b", "1001"}, {7, "a.", "111"}, {7, ".a", "111"}, {7, "a..b", "11111"}, {7, "a,b", "1111"}, {7, "a.1", "1111"}, {7, "a'\nb", "11111"},
		{7, "a\u0301'\u00ad\u200db", "1000001"}, {7, "a'\u0301", "1101"}, {7, "a'-", "1111"}, {7, "a\n'b", "11111"},
		{7, "\u05d0'", "101"}, {7, "\u05d0'-", "1011"}, {7, "\u05d0.", "111"}, {7, "'\u05d0", "111"}, {7, "\u05d0\"\u05d0", "1001"}, {7, "\u05d0\"a", "1111"}, {7, "a\"\u05d0", "1111"}, {7, "\u05d0\"", "111"}, {7, "\u05d0\u0301\"\u0301\u05d0", "100001"}, {7, "a\"b", "1111"},
		{8, "12", "101"}, {8, "a1a", "1001"}, {8, "1\u05d01", "1001"}, {8, "3.14", "10001"}, {8, "1,2", "1001"}, {8, "1;2", "1001"}, {8, "1'2", "1001"}, {8, "1:2", "1111"}, {8, "1.", "111"}, {8, "1.a", "1111"}, {8, "1,,2", "11111"}, {8, "1\u0301,\u0301\u0662", "100001"}, {8, "1\"2", "1111"},
		{9, "\u30a1\u30a2", "101"}, {9, "\u30a1\u0301\u30a2", "1001"}, {9, "\u30a1a", "111"}, {9, "1\u30a1", "111"}, {9, "a_1_\u30a1__\u05d0", "100000001"}, {9, "_ _", "1111"}, {9, "_\u0301a", "1001"}, {9, "-_", "111"}, {9, "_-", "111"}, {9, "_.a", "1111"}, {9, "\u30a1.\u30a1", "1111"}, {9, "_\u2764", "111"},
		{10, "\U0001f1e6\U0001f1e6", "101"}, {10, "\U0001f1e6\U0001f1e6\U0001f1e6", "1011"}, {10, "\U0001f1e6\U0001f1e6\U0001f1e6\U0001f1e6\U0001f1e6", "101011"}, {10, "a\U0001f1e6\U0001f1e6\U0001f1e6", "11011"}, {10, "\U0001f1e6a\U0001f1e6\U0001f1e6", "11101"},
		{10, "\U0001f1e6\u0301\U0001f1e6\u200d\U0001f1e6", "100011"}, {10, "\U0001f1e6\n\U0001f1e6\U0001f1e6", "11101"}, {10, "\n\u0301\U0001f1e6\U0001f1e6", "11101"}, {10, "\U0001f1e6a", "111"},
	} {
		l := points(c.text)
		if got := told(x, l, word.Edge); got != c.want {
			t.Errorf("rule %d: %q: %s, want %s", c.rule, c.text, got, c.want)
		}
		check(t, x, l)
	}
	if word.Edge(x, nil, 0) || word.Edge(x, []int{}, 0) {
		t.Error("a text without code points has an edge")
	}
	none := []int{-1, 0x301, math.MinInt, math.MaxInt, api.MaxRune + 1, 0xd800, 0xdfff} // what is no code point has no break
	if got := told(x, none, word.Edge); got != "10111111" {
		t.Errorf("%x: %s", none, got)
	}
}

func TestPlacesThatAreNone(t *testing.T) { // P11.1, P11.2
	x := props.Load()
	for _, l := range [][]int{nil, {}, {'a'}, {'-', 'a'}, slices.Grow([]int{'a', '-'}, 9)} {
		for _, at := range []int{math.MinInt, -2, -1, len(l) + 1, len(l) + 2, math.MaxInt} {
			if word.Edge(x, l, at) {
				t.Errorf("Edge(%x, %d)", l, at)
			}
			if word.Simple(x, l, at) {
				t.Errorf("Simple(%x, %d)", l, at)
			}
		}
	}
}

func TestListsOfAllBreaks(t *testing.T) { // P11.1
	x := props.Load()
	breaks := map[string]int{}
	for _, r := range alphabet() {
		breaks[x.Word(r)]++
	}
	if len(breaks) != 20 {
		t.Fatalf("the alphabet has the breaks %v", breaks)
	}
	lists(alphabet(), 4, func(l []int) { check(t, x, l) })
}

func TestLongerLists(t *testing.T) { // P11.1
	x := props.Load()
	lists([]int{'a', 0x5d0, '\'', '"', 0x301, 0xa}, 6, func(l []int) { check(t, x, l) })
	lists([]int{'1', ',', '.', 0x200d, '_'}, 6, func(l []int) { check(t, x, l) })
	lists([]int{0x1f1e6, 0x301, 0xd, 'a'}, 7, func(l []int) { check(t, x, l) })
	lists([]int{0x200d, 0x2764, ' ', 0xad}, 6, func(l []int) { check(t, x, l) })
}

func TestEachCodePoint(t *testing.T) { // P11.1
	x := props.Load()
	for r := range api.MaxRune + 1 {
		for _, l := range [][]int{{'a', r, 'a'}, {'1', r, '1'}, {0x5d0, r, 0x5d0}, {0xd, r, 0xa}, {0x30a1, r, 0x30a1}, {0x200d, r, ' ', 0x1f1e6}} {
			for at, want := range reckoned(x, l) {
				if word.Edge(x, l, at) != want {
					t.Fatalf("Edge(%x, %d) = %v", l, at, !want)
				}
			}
		}
	}
}

func TestLettersAlone(t *testing.T) { // P11.3
	x := props.Load()
	var l []int
	for r := range api.MaxRune + 1 {
		if among(x.Word(r), "Letter", "Hebrew") {
			l = append(l, r)
		}
	}
	l = append(l, 0x5d0, 'a', 0x5d0, 0x5d1, 'a', 'b')
	for at := range len(l) + 1 {
		if got, want := word.Edge(x, l, at), at == 0 || at == len(l); got != want {
			t.Fatalf("letters alone: Edge at %d = %v", at, got)
		}
	}
}

func TestIs(t *testing.T) { // P11.2
	x := props.Load()
	for _, r := range []int{'a', 'Z', 0x1c5, 0x5d0, 0x301, 0x903, 0x2160, '0', 0x660, '_', 0x4e00, 0xd7a3, 0xfe0f} {
		if !word.Is(x, r) {
			t.Errorf("Is(%x) = false", r)
		}
	}
	for _, r := range []int{'-', ' ', '.', '$', '^', 0xa, 0xb2, 0x200d, 0x2764, 0x1f1e6, 0x378, 0xd800, -1, math.MinInt, api.MaxRune + 1, math.MaxInt} {
		if word.Is(x, r) {
			t.Errorf("Is(%x) = true", r)
		}
	}
	for r := range api.MaxRune + 1 {
		c := x.Category(r)
		if want := strings.Contains(" Lu Ll Lt Lm Lo Mn Mc Me Nl Nd Pc ", " "+c+" "); word.Is(x, r) != want {
			t.Fatalf("Is(%x), of category %s, = %v", r, c, !want)
		}
	}
}

func TestSimple(t *testing.T) { // P11.2
	x := props.Load()
	for text, want := range map[string]string{
		"": "0", "a": "11", "-": "00", "ab": "101", "a-": "110", "-a": "011", "--": "000", "can't": "100111", "a_1\u0301 \u2160": "1000111", "\u00b2": "00", "-a-": "0110", "\u0301": "11", "\r\n": "000",
	} {
		if got := told(x, points(text), word.Simple); got != want {
			t.Errorf("%q: %s, want %s", text, got, want)
		}
	}
	lists([]int{'a', '_', '-', 0x301, -1}, 4, func(l []int) {
		for at := range len(l) + 1 {
			fits := 0 // of those on both sides
			for _, r := range l[max(at-1, 0):min(at+1, len(l))] {
				if word.Is(x, r) {
					fits++
				}
			}
			if got := word.Simple(x, l, at); got != (fits == 1) {
				t.Fatalf("Simple(%x, %d) = %v", l, at, got)
			}
		}
	})
}

func TestLongOnes(t *testing.T) { // Ends
	x := props.Load()
	const n = 200_001
	flags := slices.Repeat([]int{0x1f1e6}, n)
	if word.Edge(x, flags, n-2) || !word.Edge(x, flags, n-1) {
		t.Error("flags")
	}
	marks := slices.Concat([]int{'a'}, slices.Repeat([]int{0x301}, n), []int{'\''}, slices.Repeat([]int{0xad}, n), []int{'b'})
	for at := range len(marks) + 1 {
		if got, want := word.Edge(x, marks, at), at == 0 || at == len(marks); got != want {
			t.Fatalf("marks: Edge at %d = %v", at, got)
		}
	}
	marks[0] = 0xa
	if !word.Edge(x, marks, 1) || !word.Edge(x, marks, n+1) || !word.Edge(x, marks, 2*n+2) {
		t.Error("marks with a line end ahead of them")
	}
}

func TestTablesThatNoCallMade(t *testing.T) { // Objects
	for name, x := range map[string]*props.Tables{"nil": nil, "plain": {}} {
		for _, l := range [][]int{nil, {'a'}, {'a', '-', 'a'}} {
			for _, at := range []int{math.MinInt, -1, 0, 1, 2, 3, 4, math.MaxInt} {
				if word.Edge(x, l, at) {
					t.Errorf("%s tables: Edge(%x, %d)", name, l, at)
				}
				if word.Simple(x, l, at) {
					t.Errorf("%s tables: Simple(%x, %d)", name, l, at)
				}
			}
		}
		for _, r := range []int{-1, 0, 'a', '_', api.MaxRune + 1} {
			if word.Is(x, r) {
				t.Errorf("%s tables: Is(%x)", name, r)
			}
		}
	}
}

func TestMemory(t *testing.T) { // Memory
	x := props.Load()
	room := []int{'a', '\'', 'b', '.', 'c'} // the last one stands behind the list's end, and plays no part
	before := slices.Clone(room)
	if got := told(x, room[:4], word.Edge); got != "10011" {
		t.Errorf("edges %s", got)
	}
	if got := told(x, room[:4], word.Simple); got != "11110" {
		t.Errorf("simple edges %s", got)
	}
	if !slices.Equal(room, before) {
		t.Errorf("what is handed in has become %x", room)
	}
}
