package utf_test

import (
	"bytes"
	"math"
	"slices"
	"testing"
	"unicode/utf8"

	"rubricator/api"
	"rubricator/utf"
)

// wellFormed is the chapter's list of well-formed bytes: a row each, with the bounds of each byte.
func wellFormed() [][][2]byte {
	tail := [2]byte{0x80, 0xbf}
	return [][][2]byte{
		{{0x00, 0x7f}},
		{{0xc2, 0xdf}, tail},
		{{0xe0, 0xe0}, {0xa0, 0xbf}, tail},
		{{0xe1, 0xec}, tail, tail},
		{{0xee, 0xef}, tail, tail},
		{{0xed, 0xed}, {0x80, 0x9f}, tail},
		{{0xf0, 0xf0}, {0x90, 0xbf}, tail, tail},
		{{0xf1, 0xf3}, tail, tail, tail},
		{{0xf4, 0xf4}, {0x80, 0x8f}, tail, tail},
	}
}

// common is how many bytes of b fit the row's beginning.
func common(b []byte, row [][2]byte) int {
	n := 0
	for n < len(b) && n < len(row) && b[n] >= row[n][0] && b[n] <= row[n][1] {
		n++
	}
	return n
}

// wantItem is the item at the beginning of b[at:] by the chapter's words, row by row; the library tells the code point.
func wantItem(b []byte, at int) (api.Item, bool) {
	longest := 1
	for _, row := range wellFormed() {
		n := common(b[at:], row)
		if n == len(row) {
			r, _ := utf8.DecodeRune(b[at : at+n])
			return api.Item{R: int(r), Start: at, End: at + n}, true
		}
		longest = max(longest, n)
	}
	return api.Item{R: 0xfffd, Start: at, End: at + longest}, false
}

func wantDecode(b []byte) []api.Item {
	var out []api.Item
	for at := 0; at < len(b); {
		x, _ := wantItem(b, at)
		out = append(out, x)
		at = x.End
	}
	return out
}

// eachText calls f with every text of up to size bytes of those at which the chapter's bounds lie; f must not keep it.
func eachText(size int, f func(b []byte)) {
	edges := []byte{0x00, 0x41, 0x7f, 0x80, 0x8f, 0x90, 0x9f, 0xa0, 0xbf, 0xc0, 0xc1, 0xc2, 0xdf, 0xe0, 0xe1, 0xec, 0xed, 0xee, 0xef, 0xf0, 0xf1, 0xf3, 0xf4, 0xf5, 0xff}
	var grow func(b []byte)
	grow = func(b []byte) {
		f(b)
		if len(b) == size {
			return
		}
		for _, c := range edges {
			grow(append(b, c))
		}
	}
	grow(make([]byte, 0, size))
}

// longTexts is texts longer than eachText's, with tails and first bytes in rows.
func longTexts() [][]byte {
	var out [][]byte
	for _, first := range []string{"", "a", "\xc3", "\xe2", "\xe2\x82", "\xed", "\xf0", "\xf0\x9f", "\xf0\x9f\x98", "\xf4", "\xff", "\u20ac", "\U0001f600"} {
		for _, unit := range []string{"\x80", "\xbf", "\x9f\x98", "\xe2\x82", "\xf0\x9f\x98", "\xf0\x9f\x98\x80", "\xef\xbf\xbd", "z"} {
			for n := range 7 {
				out = append(out, append([]byte(first), bytes.Repeat([]byte(unit), n)...))
			}
		}
	}
	return out
}

func TestDecode(t *testing.T) { // P1.1
	for _, c := range []struct {
		text string
		want []api.Item
	}{
		{"", nil},
		{"aB", []api.Item{{R: 'a', Start: 0, End: 1}, {R: 'B', Start: 1, End: 2}}},
		{"\xe2\x82\x41", []api.Item{{R: 0xfffd, Start: 0, End: 2}, {R: 0x41, Start: 2, End: 3}}},
		{"\x00\x7f\xc2\x80\xdf\xbf", []api.Item{{R: 0, Start: 0, End: 1}, {R: 0x7f, Start: 1, End: 2}, {R: 0x80, Start: 2, End: 4}, {R: 0x7ff, Start: 4, End: 6}}},
		{"\xe0\xa0\x80\xed\x9f\xbf", []api.Item{{R: 0x800, Start: 0, End: 3}, {R: 0xd7ff, Start: 3, End: 6}}},
		{"\xee\x80\x80\xef\xbf\xbf", []api.Item{{R: 0xe000, Start: 0, End: 3}, {R: 0xffff, Start: 3, End: 6}}},
		{"\xf0\x90\x80\x80\xf4\x8f\xbf\xbf", []api.Item{{R: 0x10000, Start: 0, End: 4}, {R: 0x10ffff, Start: 4, End: 8}}},
		{"\xc0\x80", []api.Item{{R: 0xfffd, Start: 0, End: 1}, {R: 0xfffd, Start: 1, End: 2}}},
		{"\xed\xa0\x80", []api.Item{{R: 0xfffd, Start: 0, End: 1}, {R: 0xfffd, Start: 1, End: 2}, {R: 0xfffd, Start: 2, End: 3}}},
		{"\xf4\x90", []api.Item{{R: 0xfffd, Start: 0, End: 1}, {R: 0xfffd, Start: 1, End: 2}}},
		{"\xf0\x9f\x98", []api.Item{{R: 0xfffd, Start: 0, End: 3}}},
		{"\xf0\x9f\xf0\x9f\x98\x80", []api.Item{{R: 0xfffd, Start: 0, End: 2}, {R: 0x1f600, Start: 2, End: 6}}},
		{"\xef\xbf\xbd", []api.Item{{R: 0xfffd, Start: 0, End: 3}}},
	} {
		if got := utf.Decode([]byte(c.text)); !slices.Equal(got, c.want) {
			t.Errorf("Decode(%x) = %v, want %v", c.text, got, c.want)
		}
	}
	if got := utf.Decode(nil); len(got) != 0 {
		t.Errorf("Decode(nil) = %v", got)
	}
}

func TestDecodeByTheList(t *testing.T) { // P1.1
	check := func(b []byte) {
		if got, want := utf.Decode(b), wantDecode(b); !slices.Equal(got, want) {
			t.Fatalf("Decode(%x) = %v, want %v", b, got, want)
		}
	}
	eachText(4, check)
	for _, b := range longTexts() {
		check(b)
	}
}

func TestValid(t *testing.T) { // P1.1
	for _, s := range []string{"", "a", "\u00e9\u20ac\U0001f600", "\ufffd"} {
		if !utf.Valid([]byte(s)) {
			t.Errorf("Valid(%x) = false", s)
		}
	}
	for _, s := range []string{"\x80", "a\xc3", "\xc1\xbf", "\xe0\x9f\xbf", "\xed\xa0\x80", "\xf0\x8f\xbf\xbf", "\xf4\x90\x80\x80", "\xf5\x80\x80\x80", "ok\xff", "\xe2\x82"} {
		if utf.Valid([]byte(s)) {
			t.Errorf("Valid(%x) = true", s)
		}
	}
	if !utf.Valid(nil) {
		t.Error("Valid(nil) = false")
	}
	eachText(4, func(b []byte) {
		if got := utf.Valid(b); got != utf8.Valid(b) {
			t.Fatalf("Valid(%x) = %v", b, got)
		}
	})
}

func TestEncode(t *testing.T) { // P1.2, P1.5
	for r := range api.MaxRune + 1 {
		b, ok := utf.Encode(r)
		if r >= 0xd800 && r <= 0xdfff {
			if ok || len(b) != 0 {
				t.Fatalf("Encode(%x) = %x, %v", r, b, ok)
			}
			continue
		}
		if !ok || string(b) != string(rune(r)) {
			t.Fatalf("Encode(%x) = %x, %v", r, b, ok)
		}
		if l := utf.Decode(b); len(l) != 1 || l[0] != (api.Item{R: r, Start: 0, End: len(b)}) {
			t.Fatalf("Decode(Encode(%x)) = %v", r, l)
		}
	}
}

func TestEncodeOfNoCodePoint(t *testing.T) { // P1.2
	for _, r := range []int{-1, math.MinInt, api.MaxRune + 1, math.MaxInt, 1 << 32, 1<<32 + 'a', -1 << 32, 0xd800, 0xdfff} {
		if b, ok := utf.Encode(r); ok || len(b) != 0 {
			t.Errorf("Encode(%d) = %x, %v", r, b, ok)
		}
	}
}

func TestNext(t *testing.T) { // P1.3
	check := func(b []byte) {
		for at := range b {
			want, _ := wantItem(b, at)
			if got, ok := utf.Next(b, at); !ok || got != want {
				t.Fatalf("Next(%x, %d) = %v, %v, want %v", b, at, got, ok, want)
			}
		}
	}
	eachText(4, check)
	for _, b := range longTexts() {
		check(b)
	}
}

func TestPrev(t *testing.T) { // P1.3
	check := func(b []byte) {
		for at := 1; at <= len(b); at++ {
			l := wantDecode(b[:at])
			if got, ok := utf.Prev(b, at); !ok || got != l[len(l)-1] {
				t.Fatalf("Prev(%x, %d) = %v, %v, want %v", b, at, got, ok, l[len(l)-1])
			}
		}
	}
	eachText(4, check)
	for _, b := range longTexts() {
		check(b)
	}
}

func TestPlacesOutOfRange(t *testing.T) { // P1.3
	b := []byte("a\u20ac")
	for _, at := range []int{-1, math.MinInt, len(b), len(b) + 1, math.MaxInt} {
		if x, ok := utf.Next(b, at); ok || x != (api.Item{}) {
			t.Errorf("Next(b, %d) = %v, %v", at, x, ok)
		}
	}
	for _, at := range []int{0, -1, math.MinInt, len(b) + 1, math.MaxInt} {
		if x, ok := utf.Prev(b, at); ok || x != (api.Item{}) {
			t.Errorf("Prev(b, %d) = %v, %v", at, x, ok)
		}
	}
	for _, at := range []int{-1, 0, 1} {
		if x, ok := utf.Next(nil, at); ok || x != (api.Item{}) {
			t.Errorf("Next(nil, %d) = %v, %v", at, x, ok)
		}
		if x, ok := utf.Prev(nil, at); ok || x != (api.Item{}) {
			t.Errorf("Prev(nil, %d) = %v, %v", at, x, ok)
		}
	}
}

func TestItemsStandOneBehindTheOther(t *testing.T) { // P1.4
	check := func(b []byte) {
		end := 0
		for _, x := range utf.Decode(b) {
			if x.Start != end || x.End <= x.Start {
				t.Fatalf("Decode(%x): %v behind %d", b, x, end)
			}
			end = x.End
		}
		if end != len(b) {
			t.Fatalf("Decode(%x) ends at %d", b, end)
		}
	}
	eachText(4, check)
	for _, b := range longTexts() {
		check(b)
	}
}

func TestEncodedOnceMore(t *testing.T) { // P1.5
	check := func(b []byte) {
		if !utf8.Valid(b) {
			return
		}
		var again []byte
		for _, x := range utf.Decode(b) {
			e, ok := utf.Encode(x.R)
			if !ok {
				t.Fatalf("Decode(%x) has %v", b, x)
			}
			again = append(again, e...)
		}
		if !bytes.Equal(again, b) {
			t.Fatalf("%x encoded once more: %x", b, again)
		}
	}
	eachText(4, check)
	for _, b := range longTexts() {
		check(b)
	}
}

// What stands in the room behind a list's end, or behind Prev's place, would end an item that is cut off there.
func TestBytesBehindTheEndPlayNoPart(t *testing.T) {
	whole := []byte("a\u20ac")
	cut := whole[:3]
	want := api.Item{R: 0xfffd, Start: 1, End: 3}
	if l := utf.Decode(cut); len(l) != 2 || l[1] != want {
		t.Errorf("Decode = %v", l)
	}
	if utf.Valid(cut) {
		t.Error("Valid = true")
	}
	if x, ok := utf.Next(cut, 1); !ok || x != want {
		t.Errorf("Next = %v", x)
	}
	if x, ok := utf.Prev(whole, 3); !ok || x != want {
		t.Errorf("Prev = %v", x)
	}
}

func TestArgumentsStayAndAnswersAreNew(t *testing.T) {
	const text = "a\u00e9\xe2\x82z"
	b := []byte(text)
	first := utf.Decode(b)
	want := slices.Clone(first)
	utf.Valid(b)
	utf.Next(b, 1)
	utf.Prev(b, len(b))
	if string(b) != text {
		t.Errorf("the bytes have become %x", b)
	}
	other := utf.Decode(b)
	other[0].R = 'x'
	clear(b)
	if !slices.Equal(first, want) {
		t.Errorf("the items have become %v", first)
	}
	one, _ := utf.Encode(0x20ac)
	two, _ := utf.Encode(0x20ac)
	clear(one[:cap(one)])
	if string(two) != "\u20ac" {
		t.Errorf("another answer's bytes have become %x", two)
	}
	if three, _ := utf.Encode(0x20ac); string(three) != "\u20ac" {
		t.Errorf("a later answer's bytes are %x", three)
	}
}

func TestLongText(t *testing.T) {
	const size = 1 << 20
	tails := bytes.Repeat([]byte{0x80}, size)
	if l := utf.Decode(tails); len(l) != size || l[size-1] != (api.Item{R: 0xfffd, Start: size - 1, End: size}) {
		t.Errorf("Decode has %d items", len(l))
	}
	for at := 1; at <= size; at++ {
		if x, ok := utf.Prev(tails, at); !ok || x != (api.Item{R: 0xfffd, Start: at - 1, End: at}) {
			t.Fatalf("Prev(.., %d) = %v, %v", at, x, ok)
		}
	}
}
