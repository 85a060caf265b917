package norm_test

import (
	"math"
	"slices"
	"testing"

	"rubricator/api"
	"rubricator/decomp"
	"rubricator/norm"
	"rubricator/props"
)

// swapped is NFD in another way: neighbours whose classes fall, neither of them 0, are swapped till there are none.
func swapped(x *props.Tables, l []api.Item) []api.Item {
	var out []api.Item
	for _, a := range l {
		for _, r := range decomp.Full(x, a.R) {
			out = append(out, api.Item{R: r, Start: a.Start, End: a.End})
		}
	}
	for again := true; again; {
		again = false
		for i := 1; i < len(out); i++ {
			if c := x.Combining(out[i].R); c > 0 && x.Combining(out[i-1].R) > c {
				out[i-1], out[i] = out[i], out[i-1]
				again = true
			}
		}
	}
	return out
}

// alphabet is of all sorts: letters, marks of unlike and of like classes, what is made of one, two, three, of marks alone, of Hangul, no code points.
func alphabet() []int {
	return []int{'a', 0xe9, 0x300, 0x301, 0x315, 0x31b, 0x323, 0x327, 0x338, 0x344, 0x345, 0x3099, 0x1e69, 0x2126, 0xac01, 0xd800, -1}
}

// lists tells all lists of up to so many of the alphabet.
func lists(most int, tell func(l []int)) {
	var grow func(l []int)
	grow = func(l []int) {
		tell(l)
		if len(l) == most {
			return
		}
		for _, r := range alphabet() {
			grow(append(slices.Clip(l), r))
		}
	}
	grow(nil)
}

// placed is items of code points, each of bytes of its own.
func placed(l []int) []api.Item {
	var out []api.Item
	for i, r := range l {
		out = append(out, api.Item{R: r, Start: 10 * i, End: 10*i + 3})
	}
	return out
}

func runesOf(l []api.Item) []int {
	var out []int
	for _, a := range l {
		out = append(out, a.R)
	}
	return out
}

func TestRunes(t *testing.T) { // P8.1
	x := props.Load()
	for _, c := range []struct{ l, want []int }{
		{nil, nil}, {[]int{}, nil},
		{[]int{0x61, 0x301, 0x323}, []int{0x61, 0x323, 0x301}},
		{[]int{0x61, 0x323, 0x301}, []int{0x61, 0x323, 0x301}},
		{[]int{0x61, 0x301, 0x300}, []int{0x61, 0x301, 0x300}}, // one class: as they stood
		{[]int{0x61, 0x301, 0x323, 0x300, 0x316}, []int{0x61, 0x323, 0x316, 0x301, 0x300}},
		{[]int{0x301, 0x323}, []int{0x323, 0x301}},                                                     // nothing ahead of them
		{[]int{0x301, 0x61, 0x323}, []int{0x301, 0x61, 0x323}},                                         // none goes past a class 0
		{[]int{0x61, 0x301, 0x34f, 0x323}, []int{0x61, 0x301, 0x34f, 0x323}},                           // a mark may have class 0 too
		{[]int{0x61, 0x301, 0x323, 0x62, 0x301, 0x323}, []int{0x61, 0x323, 0x301, 0x62, 0x323, 0x301}}, // each row by itself
		{[]int{0x61, 0x345, 0x315, 0x301, 0x323, 0x31b, 0x327, 0x3099, 0x338}, []int{0x61, 0x338, 0x3099, 0x327, 0x31b, 0x323, 0x301, 0x315, 0x345}},
		{[]int{0x1e69}, []int{0x73, 0x323, 0x307}}, {[]int{0x73, 0x307, 0x323}, []int{0x73, 0x323, 0x307}},
		{[]int{0xe9, 0x323}, []int{0x65, 0x323, 0x301}}, // a mark goes among the parts
		{[]int{0x1e69, 0x327}, []int{0x73, 0x327, 0x323, 0x307}},
		{[]int{0x61, 0x344, 0x323}, []int{0x61, 0x323, 0x308, 0x301}}, // parts that are marks alone
		{[]int{0x344, 0x301}, []int{0x308, 0x301, 0x301}},
		{[]int{0x212b, 0x2126}, []int{0x41, 0x30a, 0x3a9}},
		{[]int{0xac00, 0xac01, 0x301}, []int{0x1100, 0x1161, 0x1100, 0x1161, 0x11a8, 0x301}},
		{[]int{0xd800, math.MinInt, -1, api.MaxRune, api.MaxRune + 1, math.MaxInt}, []int{0xd800, math.MinInt, -1, api.MaxRune, api.MaxRune + 1, math.MaxInt}},
		{[]int{0x301, -1, 0x323}, []int{0x301, -1, 0x323}}, // what is no code point has class 0
	} {
		if got := norm.Runes(x, c.l); !slices.Equal(got, c.want) {
			t.Errorf("Runes(%x) = %x, want %x", c.l, got, c.want)
		}
		if got, want := norm.Is(x, c.l), slices.Equal(c.l, c.want); got != want {
			t.Errorf("Is(%x) = %v", c.l, got)
		}
		if !norm.Is(x, c.want) {
			t.Errorf("Is(%x) = false", c.want)
		}
	}
}

func TestItems(t *testing.T) { // P8.1
	x := props.Load()
	for _, c := range []struct{ l, want []api.Item }{
		{nil, nil}, {[]api.Item{}, nil},
		{[]api.Item{{R: 0xe9, Start: 0, End: 2}}, []api.Item{{R: 0x65, Start: 0, End: 2}, {R: 0x301, Start: 0, End: 2}}},
		{[]api.Item{{R: 0xe9, Start: 0, End: 2}, {R: 0x323, Start: 2, End: 4}}, []api.Item{{R: 0x65, Start: 0, End: 2}, {R: 0x323, Start: 2, End: 4}, {R: 0x301, Start: 0, End: 2}}},
		{[]api.Item{{R: 0x301, Start: 4, End: 6}, {R: 0x301, Start: 0, End: 2}, {R: 0x338, Start: 8, End: 9}}, []api.Item{{R: 0x338, Start: 8, End: 9}, {R: 0x301, Start: 4, End: 6}, {R: 0x301, Start: 0, End: 2}}}, // like ones as they stood, whatever their bytes
		{[]api.Item{{R: 0xac01, Start: 5, End: 8}}, []api.Item{{R: 0x1100, Start: 5, End: 8}, {R: 0x1161, Start: 5, End: 8}, {R: 0x11a8, Start: 5, End: 8}}},
		{[]api.Item{{R: 0xe9, Start: math.MaxInt, End: math.MinInt}, {R: -5, Start: -1, End: -2}}, []api.Item{{R: 0x65, Start: math.MaxInt, End: math.MinInt}, {R: 0x301, Start: math.MaxInt, End: math.MinInt}, {R: -5, Start: -1, End: -2}}},
	} {
		if got := norm.Items(x, c.l); !slices.Equal(got, c.want) {
			t.Errorf("Items(%x) = %x, want %x", c.l, got, c.want)
		}
	}
}

func TestAllShortLists(t *testing.T) { // P8.1
	x := props.Load()
	lists(4, func(l []int) {
		want := swapped(x, placed(l))
		if got := norm.Items(x, placed(l)); !slices.Equal(got, want) {
			t.Fatalf("Items of %x = %x, want %x", l, got, want)
		}
		if got := norm.Runes(x, l); !slices.Equal(got, runesOf(want)) {
			t.Fatalf("Runes(%x) = %x, want %x", l, got, runesOf(want))
		}
		if got := norm.Is(x, l); got != slices.Equal(l, runesOf(want)) {
			t.Fatalf("Is(%x) = %v", l, got)
		}
	})
}

func TestEachCodePoint(t *testing.T) { // P8.1
	x := props.Load()
	for r := range api.MaxRune + 1 {
		want := runesOf(swapped(x, []api.Item{{R: r}}))
		if got := norm.Runes(x, []int{r}); !slices.Equal(got, want) {
			t.Fatalf("Runes(%x) = %x, want %x", r, got, want)
		}
	}
}

func TestLongRow(t *testing.T) { // P8.1, Ends
	x := props.Load()
	const each = 50_000
	falling := []int{0x345, 0x301, 0x323, 0x338}
	var l, want []int
	for _, r := range falling {
		l = append(l, slices.Repeat([]int{r}, each)...)
	}
	for _, r := range slices.Backward(falling) {
		want = append(want, slices.Repeat([]int{r}, each)...)
	}
	if !slices.Equal(norm.Runes(x, l), want) {
		t.Error("a long row of marks is not in order")
	}
	var start [4]int // the places at which those of one class stood must rise
	for i := range start {
		start[i] = -1
	}
	for _, a := range norm.Items(x, placed(l)) {
		class := slices.Index(falling, a.R)
		if a.Start <= start[class] {
			t.Fatalf("%#x of %d stands behind the one of %d", a.R, a.Start, start[class])
		}
		start[class] = a.Start
	}
}

func TestTwice(t *testing.T) { // P8.2
	x := props.Load()
	lists(3, func(l []int) {
		items := norm.Items(x, placed(l))
		if again := norm.Items(x, items); !slices.Equal(again, items) {
			t.Fatalf("NFD of %x, twice: %x", l, again)
		}
		once := norm.Runes(x, l)
		if again := norm.Runes(x, once); !slices.Equal(again, once) || !norm.Is(x, once) {
			t.Fatalf("NFD of %x: %x, twice: %x", l, once, again)
		}
	})
}

func TestOneBehindTheOther(t *testing.T) { // P8.3
	x := props.Load()
	lists(4, func(l []int) {
		want, items := norm.Runes(x, l), norm.Items(x, placed(l))
		for cut := range len(l) + 1 {
			if got := norm.Runes(x, slices.Concat(norm.Runes(x, l[:cut]), norm.Runes(x, l[cut:]))); !slices.Equal(got, want) {
				t.Fatalf("%x, cut at %d: %x, want %x", l, cut, got, want)
			}
			whole := placed(l)
			if got := norm.Items(x, slices.Concat(norm.Items(x, whole[:cut]), norm.Items(x, whole[cut:]))); !slices.Equal(got, items) {
				t.Fatalf("items of %x, cut at %d: %x, want %x", l, cut, got, items)
			}
		}
	})
}

func TestTablesThatNoCallMade(t *testing.T) { // P8.1, Objects
	for name, x := range map[string]*props.Tables{"nil": nil, "plain": {}} {
		for _, l := range [][]int{nil, {}, {'a'}, {0x65, 0x301}, {0xe9}, {0x301, 0x323}, {0xac01}, {-1}} {
			if got := norm.Items(x, placed(l)); len(got) != 0 {
				t.Errorf("%s tables: Items of %x = %x", name, l, got)
			}
			if got := norm.Runes(x, l); len(got) != 0 {
				t.Errorf("%s tables: Runes(%x) = %x", name, l, got)
			}
			if norm.Is(x, l) {
				t.Errorf("%s tables: Is(%x)", name, l)
			}
		}
	}
}

func TestMemory(t *testing.T) { // Memory
	x := props.Load()
	room := []int{0x61, 0x301, 0x323, 0xe9, 0x345, 0x338} // the last two stand behind the list's end
	runes, items := room[:4], placed(room)[:4]
	wantRunes, wantItems := norm.Runes(x, slices.Clone(runes)), norm.Items(x, slices.Clone(items))
	gotRunes, gotItems := norm.Runes(x, runes), norm.Items(x, items)
	norm.Is(x, runes)
	if !slices.Equal(runes[:6], []int{0x61, 0x301, 0x323, 0xe9, 0x345, 0x338}) || !slices.Equal(items[:6], placed(runes[:6])) {
		t.Error("what is handed in has changed")
	}
	again, againItems := norm.Runes(x, runes), norm.Items(x, items)
	for _, l := range [][]int{room, again[:cap(again)]} {
		for i := range l {
			l[i] = -7
		}
	}
	for _, l := range [][]api.Item{items[:6], againItems[:cap(againItems)]} {
		for i := range l {
			l[i] = api.Item{R: -7}
		}
	}
	if !slices.Equal(gotRunes, wantRunes) || !slices.Equal(gotItems, wantItems) {
		t.Error("an answer shares memory with an argument or another answer")
	}
}

func TestInOrderAlreadyIsNewToo(t *testing.T) { // Memory
	x := props.Load()
	runes, items := []int{0x61, 0x323, 0x301}, placed([]int{0x61, 0x323, 0x301})
	norm.Runes(x, runes)[0] = -7
	norm.Items(x, items)[0].R = -7
	if runes[0] != 0x61 || items[0].R != 0x61 {
		t.Error("the answer is the argument")
	}
}
