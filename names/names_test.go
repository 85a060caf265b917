package names_test

import (
	"math"
	"regexp"
	"slices"
	"strings"
	"testing"

	"rubricator/api"
	"rubricator/names"
)

// row is a line of the file, read without the layers.
type row struct{ kind, short, long string }

func rows(t *testing.T) []row {
	t.Helper()
	var out []row
	for line := range strings.SplitSeq(api.Aliases(), "\n") {
		if line == "" || line[0] == '#' {
			continue
		}
		f := strings.Split(line, " ; ")
		out = append(out, row{f[0], f[1], f[2]})
	}
	if len(out) != 51 {
		t.Fatalf("%d lines", len(out))
	}
	return out
}

var (
	noPart   = regexp.MustCompile("[ _-]")
	great    = regexp.MustCompile("[A-Z]")
	isAhead  = regexp.MustCompile("(?s)^is(.)")
	twoParts = regexp.MustCompile("(?s)^([^=:]*)[=:](.*)$")
)

// wantLoose is a name loosely by the chapter's words. The text is of bytes, each of which stands here as a rune of its own, so that malformed ones stay.
func wantLoose(s string) string {
	var wide []rune
	for _, b := range []byte(s) {
		wide = append(wide, rune(b))
	}
	text := noPart.ReplaceAllString(string(wide), "")
	text = great.ReplaceAllStringFunc(text, strings.ToLower)
	text = isAhead.ReplaceAllString(text, "$1")
	var out []byte
	for _, r := range text {
		out = append(out, byte(r))
	}
	return string(out)
}

// wantResolve is Resolve by the chapter's words, from the lines of the file.
func wantResolve(l []row, s string) (int, string, api.Errno) {
	numbers := map[string]int{"gc": api.PropCategory, "sc": api.PropScript, "bi": api.PropBinary}
	find := func(kind, s string) (string, bool) {
		i := slices.IndexFunc(l, func(x row) bool {
			return x.kind == kind && (wantLoose(x.short) == wantLoose(s) || wantLoose(x.long) == wantLoose(s))
		})
		if i < 0 {
			return "", false
		}
		return l[i].short, true
	}
	if m := twoParts.FindStringSubmatch(s); m != nil {
		p, ok := find("pr", m[1])
		if !ok {
			return 0, "", api.ErrName
		}
		if v, ok := find(p, m[2]); ok {
			return numbers[p], v, api.OK
		}
		return 0, "", api.ErrValue
	}
	for _, kind := range []string{"gc", "bi", "sc"} {
		if v, ok := find(kind, s); ok {
			return numbers[kind], v, api.OK
		}
	}
	return 0, "", api.ErrName
}

// spellings is a name in ways that are one.
func spellings(s string) []string {
	return []string{
		s, strings.ToLower(s), strings.ToUpper(s), "is" + s, "Is_" + s, " i-S" + s, s + " ", "-" + s + "_", "  " + s,
		strings.ReplaceAll(s, "_", ""), strings.ReplaceAll(s, "_", " - "), strings.Join(strings.Split(s, ""), "_"),
	}
}

func TestLoose(t *testing.T) { // P5.1
	for _, c := range []struct{ s, want string }{
		{"Is_A-b C", "abc"}, {"General_Category", "generalcategory"}, {"uppercase-letter", "uppercaseletter"},
		{"", ""}, {" - _ ", ""}, {"is", "is"}, {"IS", "is"}, {"i-s", "is"}, {" Is_ ", "is"}, {"i", "i"}, {"s", "s"},
		{"isx", "x"}, {"I S x", "x"}, {"i_s-X", "x"}, {"isis", "is"}, {"IsIsx", "isx"}, {"isisis", "isis"}, {"xis", "xis"}, {"x is y", "xisy"}, {"si", "si"},
		{"a\tb\nc", "a\tb\nc"}, {"\u00a0a", "\u00a0a"}, {"a\u2010b", "a\u2010b"}, {"is\t", "\t"},
		{"@AZ[`az{", "@az[`az{"}, {"\u00c9\u0130\u212a", "\u00c9\u0130\u212a"}, {"0 9", "09"}, {"a=B:c", "a=b:c"},
		{"\xffA\xc3", "\xffa\xc3"}, {"is\xff", "\xff"}, {"\x00 \x00", "\x00\x00"},
	} {
		if got := names.Loose(c.s); got != c.want {
			t.Errorf("Loose(%q) = %q, want %q", c.s, got, c.want)
		}
	}
}

func TestLooseOfManyTexts(t *testing.T) { // P5.1
	texts := []string{""}
	for range 5 {
		var longer []string
		for _, s := range texts {
			for _, c := range []string{"i", "S", " ", "-", "_", "\xe9"} {
				longer = append(longer, s+c)
			}
		}
		for _, s := range longer {
			if got := names.Loose(s); got != wantLoose(s) {
				t.Fatalf("Loose(%q) = %q, want %q", s, got, wantLoose(s))
			}
		}
		texts = longer
	}
	for b := range 256 {
		s := "x" + string([]byte{byte(b)}) + "y"
		if got := names.Loose(s); got != wantLoose(s) {
			t.Errorf("Loose(%q) = %q, want %q", s, got, wantLoose(s))
		}
	}
	long := strings.Repeat("Is-", 1<<18)
	if got := names.Loose(long); got != strings.Repeat("is", 1<<18-1) {
		t.Errorf("of a long text %d bytes", len(got))
	}
}

func TestResolve(t *testing.T) { // P5.2
	for _, c := range []struct {
		s     string
		kind  int
		value string
	}{
		{"general category = uppercase-letter", api.PropCategory, "Lu"}, {"gc=Lu", api.PropCategory, "Lu"}, {"GC:LU", api.PropCategory, "Lu"},
		{"isGc=isLu", api.PropCategory, "Lu"}, {"gc=L", api.PropCategory, "L"}, {" Is General-Category : Other ", api.PropCategory, "C"},
		{"sc=Grek", api.PropScript, "Grek"}, {"Script:greek", api.PropScript, "Grek"}, {"IsGreek", api.PropScript, "Grek"}, {"unknown", api.PropScript, "Zzzz"}, {"script=zzzz", api.PropScript, "Zzzz"},
		{"sc", api.PropCategory, "Sc"}, {"gc=sc", api.PropCategory, "Sc"}, {"lower", api.PropBinary, "Lower"}, {"Lowercase Letter", api.PropCategory, "Ll"},
		{"space", api.PropBinary, "space"}, {"white-space", api.PropBinary, "space"}, {"isSpace", api.PropBinary, "space"}, {"SPACE separator", api.PropCategory, "Zs"},
		{"any", api.PropBinary, "Any"}, {"ascii", api.PropBinary, "ASCII"}, {"IS_ALPHABETIC", api.PropBinary, "Alpha"}, {"l", api.PropCategory, "L"}, {"is L", api.PropCategory, "L"},
	} {
		if kind, value, e := names.Resolve(c.s); kind != c.kind || value != c.value || e != api.OK {
			t.Errorf("Resolve(%q) = %d, %q, %d, want %d, %q", c.s, kind, value, e, c.kind, c.value)
		}
	}
}

func TestResolveFaults(t *testing.T) { // P5.2
	for _, c := range []struct {
		s    string
		want api.Errno
	}{
		{"", api.ErrName}, {" ", api.ErrName}, {"is", api.ErrName}, {"nothing", api.ErrName}, {"gc", api.ErrName}, {"Script", api.ErrName}, {"General_Category", api.ErrName},
		{"pr", api.ErrName}, {"bi", api.ErrName}, {"isisLu", api.ErrName}, {"L\tu", api.ErrName}, {"Lu\xff", api.ErrName}, {"L\u00fc", api.ErrName}, {"Lux", api.ErrName}, {"\u212aana", api.ErrName},
		{"=", api.ErrName}, {":", api.ErrName}, {"=Lu", api.ErrName}, {":gc=Lu", api.ErrName}, {"is=Lu", api.ErrName}, {"foo=L", api.ErrName}, {"foo=", api.ErrName}, {"foo=bar", api.ErrName},
		{"Lu=gc", api.ErrName}, {"Any=Any", api.ErrName}, {"bi=Any", api.ErrName}, {"pr=gc", api.ErrName}, {"PropertyX:L", api.ErrName}, {"White_Space=space", api.ErrName},
		{"gc=", api.ErrValue}, {"sc:", api.ErrValue}, {"gc=is", api.ErrValue}, {"gc=Latin", api.ErrValue}, {"sc=L", api.ErrValue}, {"gc=Any", api.ErrValue}, {"sc=space", api.ErrValue},
		{"gc=isisLu", api.ErrValue}, {"gc==Lu", api.ErrValue}, {"gc=:Lu", api.ErrValue}, {"gc:Lu=", api.ErrValue}, {"gc=sc=Latn", api.ErrValue}, {"gc:sc=Latn", api.ErrValue}, {"sc=gc:Lu", api.ErrValue}, {"gc=gc", api.ErrValue}, {"gc=Script", api.ErrValue},
	} {
		if kind, value, e := names.Resolve(c.s); kind != 0 || value != "" || e != c.want {
			t.Errorf("Resolve(%q) = %d, %q, %d, want error %d alone", c.s, kind, value, e, c.want)
		}
	}
}

func TestResolveOfManyTexts(t *testing.T) { // P5.2
	l := rows(t)
	parts := []string{"", "is", "gc", "Script", "general category", "L", "isLu", "sc", "Latn", "latin", "Any", "White space", "x"}
	for _, ahead := range parts {
		for _, mark := range []string{"", "=", ":", "==", " : "} {
			for _, behind := range parts {
				for _, tail := range []string{"", "=", ":L", "="} {
					s := ahead + mark + behind + tail
					kind, value, e := names.Resolve(s)
					wantKind, wantValue, wantE := wantResolve(l, s)
					if kind != wantKind || value != wantValue || e != wantE {
						t.Errorf("Resolve(%q) = %d, %q, %d, want %d, %q, %d", s, kind, value, e, wantKind, wantValue, wantE)
					}
				}
			}
		}
	}
	for _, s := range []string{strings.Repeat("=", 1<<20), strings.Repeat("is", 1<<20)} {
		if _, _, e := names.Resolve(s); e != api.ErrName {
			t.Errorf("of a long text error %d", e)
		}
	}
}

func TestNamesSayTheSame(t *testing.T) { // P5.2, P5.4
	l := rows(t)
	check := func(s string, kind int, value string) {
		if gotKind, got, e := names.Resolve(s); gotKind != kind || got != value || e != api.OK {
			t.Errorf("Resolve(%q) = %d, %q, %d, want %d, %q", s, gotKind, got, e, kind, value)
		}
	}
	for _, x := range l {
		kind := map[string]int{"gc": api.PropCategory, "sc": api.PropScript, "bi": api.PropBinary}[x.kind]
		for _, s := range append(spellings(x.short), spellings(x.long)...) {
			if kind != 0 {
				check(s, kind, x.short) // no value has a name of another kind's
			}
			for _, p := range l {
				if p.kind != "pr" || p.short != x.kind {
					continue
				}
				for _, ahead := range append(spellings(p.short), spellings(p.long)...) {
					check(ahead+"="+s, kind, x.short)
					check(ahead+" : "+s, kind, x.short)
				}
			}
		}
	}
}

func TestLong(t *testing.T) { // P5.3
	kinds := map[string]int{"gc": api.PropCategory, "sc": api.PropScript, "bi": api.PropBinary}
	l := rows(t)
	for _, x := range l {
		for kind := -1; kind < 6; kind++ {
			at := slices.IndexFunc(l, func(y row) bool { return kinds[y.kind] == kind && kind != 0 && y.short == x.short })
			want := ""
			if at >= 0 {
				want = l[at].long
			}
			if got, ok := names.Long(kind, x.short); got != want || ok != (at >= 0) {
				t.Errorf("Long(%d, %q) = %q, %v, want %q", kind, x.short, got, ok, want)
			}
		}
	}
}

func TestLongOfNone(t *testing.T) { // P5.3
	for _, c := range []struct {
		kind  int
		value string
	}{
		{api.PropCategory, ""}, {api.PropCategory, "Uppercase_Letter"}, {api.PropCategory, "lu"}, {api.PropCategory, "LU"}, {api.PropCategory, " Lu"}, {api.PropCategory, "isLu"}, {api.PropCategory, "Latn"}, {api.PropCategory, "gc"},
		{api.PropScript, "Greek"}, {api.PropScript, "Lu"}, {api.PropScript, "grek"}, {api.PropScript, "sc"}, {api.PropBinary, "Space"}, {api.PropBinary, "White_Space"}, {api.PropBinary, "any"}, {api.PropBinary, "Lu"}, {api.PropBinary, "\xff"},
		{0, "gc"}, {0, "sc"}, {0, ""}, {0, "Lu"}, {4, "gc"}, {4, "Lu"}, {-1, "Lu"}, {math.MinInt, "Lu"}, {math.MaxInt, "space"},
	} {
		if got, ok := names.Long(c.kind, c.value); got != "" || ok {
			t.Errorf("Long(%d, %q) = %q, %v", c.kind, c.value, got, ok)
		}
	}
}
