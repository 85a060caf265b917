package lines_test

import (
	"fmt"
	"math"
	"reflect"
	"slices"
	"strings"
	"testing"
	"unsafe"

	"rubricator/api"
	"rubricator/lines"
)

func TestHex(t *testing.T) { // P2.1
	for r := range api.MaxRune + 1 {
		for _, form := range []string{"%04X", "%04x", "%05X", "%06x"} {
			s := fmt.Sprintf(form, r)
			if n, ok := lines.Hex(s); !ok || n != r {
				t.Fatalf("Hex(%q) = %x, %v", s, n, ok)
			}
		}
	}
	if n, ok := lines.Hex("aBcD"); !ok || n != 0xabcd {
		t.Errorf("Hex(aBcD) = %x, %v", n, ok)
	}
}

func TestHexOfNoCodePoint(t *testing.T) { // P2.1
	for _, s := range []string{"", "0", "041", "0000041", "00000041", "110000", "FFFFFF", "004G", "00g1", "/041", "004:", "@041", "`041", "+0041", "-0041", "0x41", "00 41", " 0041", "0041 ", "0041\n", "0_041", "00é1", "004\xff", "\x000041", "００４１", "٠٠٤١", strings.Repeat("0", 1<<16)} {
		if n, ok := lines.Hex(s); ok || n != 0 {
			t.Errorf("Hex(%q) = %x, %v", s, n, ok)
		}
	}
}

func TestRows(t *testing.T) { // P2.2
	for _, c := range []struct {
		text string
		want [][]string
	}{
		{"", nil},
		{"\n", nil},
		{"\n \n\t\n#\n # ; a\n", nil},
		{"a", [][]string{{"a"}}},
		{"a\n", [][]string{{"a"}}},
		{"a;b", [][]string{{"a", "b"}}},
		{" \t a \t;\t b  c ; d\t\nx", [][]string{{"a", "b  c", "d"}, {"x"}}},
		{"pr ; gc ; General_Category # a ; b\n\n# c\nbi;Any;Any#", [][]string{{"pr", "gc", "General_Category"}, {"bi", "Any", "Any"}}},
		{";", [][]string{{"", ""}}},
		{" ; ;# x", [][]string{{"", "", ""}}},
		{"a ;", [][]string{{"a", ""}}},
		{"; a", [][]string{{"", "a"}}},
		{"a # b # c ; d\ne", [][]string{{"a"}, {"e"}}},
		{"a\r\n\r\n", [][]string{{"a\r"}, {"\r"}}},
		{"\v;\f;\u00a0;\u2003", [][]string{{"\v", "\f", "\u00a0", "\u2003"}}},
		{"\xe2;\xff#\xff\n\xe2\x82\n\x00", [][]string{{"\xe2", "\xff"}, {"\xe2\x82"}, {"\x00"}}},
	} {
		if got := lines.Rows(c.text); len(got) != len(c.want) || len(got) > 0 && !reflect.DeepEqual(got, c.want) {
			t.Errorf("Rows(%q) = %q, want %q", c.text, got, c.want)
		}
	}
}

func TestParse(t *testing.T) { // P2.2
	for _, c := range []struct {
		text string
		want []api.Record
	}{
		{"", nil},
		{"# 41\n\n \t\n", nil},
		{"0041..005A ; Lu # x", []api.Record{{Lo: 0x41, Hi: 0x5a, Fields: []string{"Lu"}}}},
		{"0041;a\n10FFFF;b;c\n", []api.Record{{Lo: 0x41, Hi: 0x41, Fields: []string{"a"}}, {Lo: 0x10ffff, Hi: 0x10ffff, Fields: []string{"b", "c"}}}},
		{"\t000000..10ffff\t; x  y \t;", []api.Record{{Lo: 0, Hi: 0x10ffff, Fields: []string{"x  y", ""}}}},
		{"0041..0041 ; a", []api.Record{{Lo: 0x41, Hi: 0x41, Fields: []string{"a"}}}},
		{"d800..DFFF ; Cs", []api.Record{{Lo: 0xd800, Hi: 0xdfff, Fields: []string{"Cs"}}}},
		{"0041 ;", []api.Record{{Lo: 0x41, Hi: 0x41, Fields: []string{""}}}},
		{"0041 ; # a", []api.Record{{Lo: 0x41, Hi: 0x41, Fields: []string{""}}}},
	} {
		l, at, e := lines.Parse(c.text)
		if e != api.OK || at != 0 || len(l) != len(c.want) || len(l) > 0 && !reflect.DeepEqual(l, c.want) {
			t.Errorf("Parse(%q) = %v, %d, %v, want %v", c.text, l, at, e, c.want)
		}
	}
}

func TestParseOfNoRecord(t *testing.T) { // P2.2
	for _, line := range []string{
		"0041", "0041 # ; a", "0041..005A", ";", "; a", " ; ; ", "x",
		"041 ; a", "0000041 ; a", "110000 ; a", "004G ; a", "U+0041 ; a",
		"005A..0041 ; a", "0042..0041 ; a", "0041.005A ; a", "0041...005A ; a", "0041-005A ; a",
		"0041 .. 005A ; a", "0041.. 005A ; a", "0041.. ; a", "..0041 ; a", ".. ; a",
		"0041..005A..0061 ; a", "0041..110000 ; a", "0041..05A ; a", "0041 0042 ; a", "0041\r ; a", "\r",
	} {
		for number, ahead := range []string{"", "\n", "# x\n0041 ; a\n", "0041 ; a\n\n \t\n"} {
			for _, behind := range []string{"", "\n", "\n0041 ; a", "\nwrong\n"} {
				text := ahead + line + behind
				l, at, e := lines.Parse(text)
				if e != api.ErrLine || at != number+1 || len(l) != 0 {
					t.Errorf("Parse(%q) = %v, %d, %v", text, l, at, e)
				}
			}
		}
	}
}

func TestParseOfTheFiles(t *testing.T) { // P2.2
	for name, text := range map[string]string{"categories": api.Categories(), "combining": api.Combining(), "decompositions": api.Decompositions(), "folding": api.Folding(), "clusters": api.Clusters(), "words": api.WordBreaks(), "scripts": api.Scripts()} {
		l, at, e := lines.Parse(text)
		if e != api.OK || at != 0 || len(l) != strings.Count(text, "\n")-1 {
			t.Errorf("%s: %d records, %d, %v", name, len(l), at, e)
		}
		again, e := lines.Print(l)
		if _, behind, _ := strings.Cut(text, "\n"); e != api.OK || again != behind {
			t.Errorf("%s printed is another one: %v", name, e)
		}
	}
	if l, at, e := lines.Parse(api.Aliases()); e != api.ErrLine || at != 2 || len(l) != 0 {
		t.Errorf("aliases: %v, %d, %v", l, at, e)
	}
}

func TestPrint(t *testing.T) { // P2.3
	for _, c := range []struct {
		l    []api.Record
		want string
	}{
		{nil, ""},
		{[]api.Record{}, ""},
		{[]api.Record{{Lo: 0x41, Hi: 0x5a, Fields: []string{"Lu"}}}, "0041..005A ; Lu\n"},
		{[]api.Record{{Lo: 0xe9, Hi: 0xe9, Fields: []string{"0065 0301", "z"}}, {Fields: []string{"\r"}}}, "00E9 ; 0065 0301 ; z\n0000 ; \r\n"},
		{[]api.Record{{Lo: 0xabcd, Hi: 0xabcde, Fields: []string{"a\tb"}}}, "ABCD..ABCDE ; a\tb\n"},
		{[]api.Record{{Lo: 0, Hi: api.MaxRune, Fields: []string{"", "\xff", ""}}}, "0000..10FFFF ;  ; \xff ; \n"},
		{[]api.Record{{Lo: 0xd800, Hi: 0xdfff, Fields: []string{"Cs"}}}, "D800..DFFF ; Cs\n"},
	} {
		if got, e := lines.Print(c.l); e != api.OK || got != c.want {
			t.Errorf("Print(%v) = %q, %v, want %q", c.l, got, e, c.want)
		}
	}
}

func TestPrintOfNoRecord(t *testing.T) { // P2.3
	good := api.Record{Lo: 0x41, Hi: 0x41, Fields: []string{"a"}}
	bad := []api.Record{
		{Lo: 0x41, Hi: 0x41},
		{Lo: 0x41, Hi: 0x41, Fields: []string{}},
		{Lo: 0x42, Hi: 0x41, Fields: []string{"a"}},
		{Lo: -1, Hi: 0x41, Fields: []string{"a"}},
		{Lo: -2, Hi: -1, Fields: []string{"a"}},
		{Lo: 0, Hi: api.MaxRune + 1, Fields: []string{"a"}},
		{Lo: api.MaxRune + 1, Hi: api.MaxRune + 1, Fields: []string{"a"}},
		{Lo: math.MinInt, Hi: math.MaxInt, Fields: []string{"a"}},
		{Lo: math.MaxInt, Hi: math.MinInt, Fields: []string{"a"}},
	}
	for _, f := range []string{";", "a;b", "#", "a#b", "\n", "a\nb", "a\n", " ", "\t", " a", "a ", "\ta", "a\t", "a b ", "\xff;", "\xff ", strings.Repeat("x", 40) + "#x"} {
		bad = append(bad, api.Record{Lo: 0x41, Hi: 0x41, Fields: []string{f}}, api.Record{Lo: 0x41, Hi: 0x41, Fields: []string{"a", f, "b"}})
	}
	for _, r := range bad {
		for _, l := range [][]api.Record{{r}, {good, r}, {r, good}} {
			if s, e := lines.Print(l); e != api.ErrArg || s != "" {
				t.Errorf("Print(%v) = %q, %v", l, s, e)
			}
		}
	}
}

func TestParseOfPrint(t *testing.T) { // P2.4
	fields := []string{"", "a", "Lu", "0065 0301", "a\tb", "..", "\r", "\v", "\x00", "\xff", "\xe2\x82", "é", "\u00a0x\u2003"}
	points := []int{0, 9, 0x41, 0xfff, 0x1000, 0xd800, 0xffff, 0x10000, 0xfffff, 0x100000, api.MaxRune}
	var l []api.Record
	for i, lo := range points {
		for _, hi := range points[i:] {
			for k := range fields {
				l = append(l, api.Record{Lo: lo, Hi: hi, Fields: slices.Concat(fields[k:], fields[:k])[:1+k%5]})
			}
		}
	}
	s, e := lines.Print(l)
	if e != api.OK {
		t.Fatal(e)
	}
	again, at, e := lines.Parse(s)
	if e != api.OK || at != 0 || !reflect.DeepEqual(again, l) {
		t.Fatal("other records", at, e)
	}
}

func TestArgumentsStayAndAnswersAreNew(t *testing.T) {
	const text = "0041 ; a ; b\n0042 ; c ; d\n"
	l, _, _ := lines.Parse(text)
	for i := range l {
		for k := range l[i].Fields {
			for range 3 {
				_ = append(l[i].Fields[:k+1], "x") // into the spare room, or into this very list
			}
		}
	}
	want := []api.Record{{Lo: 0x41, Hi: 0x41, Fields: []string{"a", "x"}}, {Lo: 0x42, Hi: 0x42, Fields: []string{"c", "x"}}}
	if !reflect.DeepEqual(l, want) {
		t.Errorf("records share room: %v", l)
	}
	rows := lines.Rows(text)
	_ = append(rows[0], "x", "y", "z")
	rows[0][0] = "x"
	if !slices.Equal(rows[1], []string{"0042", "c", "d"}) || lines.Rows(text)[0][0] != "0041" {
		t.Errorf("rows share room: %v", rows)
	}
	in := []api.Record{{Lo: 1, Hi: 2, Fields: []string{"a", "b", "c"}[:2]}}
	if _, e := lines.Print(in); e != api.OK || !reflect.DeepEqual(in, []api.Record{{Lo: 1, Hi: 2, Fields: []string{"a", "b"}}}) || in[0].Fields[:3][2] != "c" {
		t.Errorf("Print has changed its argument: %v", in)
	}
}

// A field that were a piece of the text would keep the whole text.
func TestFieldsAreNoPiecesOfTheText(t *testing.T) {
	text := strings.Repeat("0041 ; abcdef ; ghi # x\n", 3)
	from := uintptr(unsafe.Pointer(unsafe.StringData(text)))
	inside := func(s string) bool {
		at := uintptr(unsafe.Pointer(unsafe.StringData(s)))
		return at >= from && at < from+uintptr(len(text))
	}
	for _, row := range lines.Rows(text) {
		if slices.ContainsFunc(row, inside) {
			t.Errorf("Rows has a piece of the text: %q", row)
		}
	}
	l, _, _ := lines.Parse(text)
	for _, r := range l {
		if slices.ContainsFunc(r.Fields, inside) {
			t.Errorf("Parse has a piece of the text: %q", r.Fields)
		}
	}
}

func TestLongText(t *testing.T) {
	const size = 1 << 17
	text := strings.Repeat("\n", size) + "0041" + strings.Repeat(";", size) + "\n" + strings.Repeat("#", size) + "\nwrong"
	if l, at, e := lines.Parse(text); e != api.ErrLine || at != size+3 || len(l) != 0 {
		t.Errorf("Parse = %d records, %d, %v", len(l), at, e)
	}
	if rows := lines.Rows(text); len(rows) != 2 || len(rows[0]) != size+1 || len(rows[1]) != 1 {
		t.Errorf("Rows has %d rows", len(rows))
	}
}
