package edit_test

import (
	"bytes"
	"fmt"
	"math"
	"regexp"
	"slices"
	"strconv"
	"strings"
	"testing"

	"rubricator/api"
	"rubricator/edit"
)

// told is parts in words: texts as they stand, groups in brackets.
func told(l []edit.Part) string {
	var out strings.Builder
	for _, p := range l {
		switch {
		case p.A == -1 && len(p.Text) > 0:
			fmt.Fprintf(&out, "%q", p.Text)
		case p.A != -1 && p.Text == nil:
			fmt.Fprintf(&out, "[%d]", p.A)
		default:
			fmt.Fprintf(&out, "WRONG %v", p)
		}
	}
	return out.String()
}

// names are those of groups: two have one name, one has none, and what stands at 0 is no group's.
func names() []string { return []string{"zero", "n", "", "n", "_9", "Az"} }

func TestTemplate(t *testing.T) { // P22.1
	for _, c := range []struct {
		s      string
		groups int
		want   string
	}{
		{"", 5, ""}, {"abc", 5, `"abc"`}, {"a{b}c}", 5, `"a{b}c}"`}, {"\xff\x00\u20ac", 5, `"\xff\x00€"`},
		{"$$", 5, `"$"`}, {"$$$$", 5, `"$$"`}, {"a$$b", 5, `"a$b"`}, {"$$1", 5, `"$1"`}, {"$${n}", 5, `"${n}"`}, {"$$$1", 5, `"$"[1]`},
		{"$0", 0, "[0]"}, {"$1", 5, "[1]"}, {"$5", 5, "[5]"}, {"$1$2", 5, "[1][2]"}, {"a$1b$2c", 5, `"a"[1]"b"[2]"c"`}, {"$1a", 5, `[1]"a"`}, {"$1}", 5, `[1]"}"`}, {"$00", 5, "[0]"}, {"$01", 5, "[1]"}, {"$12", 12, "[12]"}, {"$123", 12, `[12]"3"`}, {"$012", 5, `[1]"2"`}, {"$1$$2", 5, `[1]"$2"`}, {"$99", 99, "[99]"}, {"$1\u0661", 5, `[1]"١"`},
		{"${0}", 0, "[0]"}, {"${1}", 5, "[1]"}, {"${1}2", 5, `[1]"2"`}, {"${05}", 5, "[5]"}, {"${005}", 5, "[5]"}, {"${12}", 12, "[12]"}, {"${999}", 999, "[999]"}, {"${000}", 0, "[0]"}, {"${1}}", 5, `[1]"}"`},
		{"${n}", 5, "[1]"}, {"${_9}", 5, "[4]"}, {"${Az}", 5, "[5]"}, {"a${n}${n}b", 5, `"a"[1][1]"b"`}, {"$2-$$${n}$$", 5, `[2]"-$"[1]"$"`}, {"${Az}", 0, "[5]"}, {"${n}", -1, "[1]"}, {"$99", math.MaxInt, "[99]"},
	} {
		l, f := edit.Template([]byte(c.s), c.groups, names())
		if got := told(l); got != c.want || f != (api.Fault{}) {
			t.Errorf("%s for %d: %s, %v, want %s", c.s, c.groups, got, f, c.want)
		}
	}
	if l, f := edit.Template(nil, 0, nil); len(l) != 0 || f != (api.Fault{}) {
		t.Errorf("nil: %v, %v", l, f)
	}
}

func TestTemplatesFaults(t *testing.T) { // P22.1
	for _, c := range []struct {
		s      string
		groups int
		names  []string
		code   api.Errno
		at     int
	}{
		{"$", 5, names(), api.ErrTemplate, 0}, {"a$", 5, names(), api.ErrTemplate, 1}, {"$$$", 5, names(), api.ErrTemplate, 2}, {"\u20ac$", 5, names(), api.ErrTemplate, 3}, {"$a", 5, names(), api.ErrTemplate, 0}, {"$-1", 5, names(), api.ErrTemplate, 0}, {"$ 1", 5, names(), api.ErrTemplate, 0}, {"$n", 5, names(), api.ErrTemplate, 0}, {"$}", 5, names(), api.ErrTemplate, 0}, {"$\u0661", 5, names(), api.ErrTemplate, 0}, {"$/", 5, names(), api.ErrTemplate, 0}, {"$:", 5, names(), api.ErrTemplate, 0},
		{"${", 5, names(), api.ErrTemplate, 0}, {"${}", 5, names(), api.ErrTemplate, 0}, {"${1", 5, names(), api.ErrTemplate, 0}, {"${n", 5, names(), api.ErrTemplate, 0}, {"${0001}", 5, names(), api.ErrTemplate, 0}, {"${1n}", 5, names(), api.ErrTemplate, 0}, {"${9_}", 5, names(), api.ErrTemplate, 0}, {"${n-}", 5, names(), api.ErrTemplate, 0}, {"${ n}", 5, names(), api.ErrTemplate, 0}, {"${n }", 5, names(), api.ErrTemplate, 0}, {"${-1}", 5, names(), api.ErrTemplate, 0}, {"${\u00e9}", 5, names(), api.ErrTemplate, 0}, {"${$}", 5, names(), api.ErrTemplate, 0}, {"${${n}}", 5, names(), api.ErrTemplate, 0}, {"${n\x00}", 5, names(), api.ErrTemplate, 0}, {"${@}", 5, names(), api.ErrTemplate, 0}, {"${[}", 5, names(), api.ErrTemplate, 0}, {"${`}", 5, names(), api.ErrTemplate, 0}, {"${a{}", 5, names(), api.ErrTemplate, 0},
		{"$6", 5, names(), api.ErrGroup, 0}, {"$12", 5, names(), api.ErrGroup, 0}, {"a$1$6", 5, names(), api.ErrGroup, 3}, {"${6}", 5, names(), api.ErrGroup, 0}, {"${006}", 5, names(), api.ErrGroup, 0}, {"${999}", 998, names(), api.ErrGroup, 0}, {"$0", -1, names(), api.ErrGroup, 0}, {"${0}", math.MinInt, names(), api.ErrGroup, 0},
		{"${zero}", 5, names(), api.ErrGroup, 0}, {"${q}", 5, names(), api.ErrGroup, 0}, {"${N}", 5, names(), api.ErrGroup, 0}, {"${nn}", 5, names(), api.ErrGroup, 0}, {"a${q}", 5, names(), api.ErrGroup, 1}, {"${n}", 5, nil, api.ErrGroup, 0}, {"${n}", 5, []string{}, api.ErrGroup, 0}, {"${n}", 5, []string{"n"}, api.ErrGroup, 0},
		// the first $ that is wrong says it, whatever is wrong
		{"$6$", 5, names(), api.ErrGroup, 0}, {"$a$6", 5, names(), api.ErrTemplate, 0}, {"${q}${", 5, names(), api.ErrGroup, 0}, {"$1${q$6", 5, names(), api.ErrTemplate, 2}, {"$1$6${q", 5, names(), api.ErrGroup, 2},
	} {
		l, f := edit.Template([]byte(c.s), c.groups, c.names)
		if len(l) != 0 || f.Code != c.code || f.At != c.at {
			t.Errorf("%s for %d, %q: %s, %v, want %d at %d", c.s, c.groups, c.names, told(l), f, c.code, c.at)
		}
	}
}

// slowTemplate is the chapter's words, by a regular expression for what a $ may begin.
func slowTemplate(s string, groups int, names []string) (string, api.Fault) {
	begins := regexp.MustCompile(`^\$(?:(\$)|([0-9]{1,2})|\{([0-9]{1,3})\}|\{([A-Za-z_][A-Za-z0-9_]*)\})`)
	var out, text strings.Builder
	flush := func() {
		if text.Len() > 0 {
			fmt.Fprintf(&out, "%q", text.String())
			text.Reset()
		}
	}
	for at := 0; at < len(s); {
		if s[at] != '$' {
			text.WriteByte(s[at])
			at++
			continue
		}
		m := begins.FindStringSubmatch(s[at:])
		if m == nil {
			return "", api.Fault{Code: api.ErrTemplate, At: at}
		}
		group := slices.Index(names, m[4])
		if m[4] == "" {
			group, _ = strconv.Atoi(m[2] + m[3])
		}
		switch {
		case m[1] != "":
			text.WriteByte('$')
		case m[4] != "" && group < 1, m[4] == "" && group > groups:
			return "", api.Fault{Code: api.ErrGroup, At: at}
		default:
			flush()
			fmt.Fprintf(&out, "[%d]", group)
		}
		at += len(m[0])
	}
	flush()
	return out.String(), api.Fault{}
}

// texts tells all texts of up to so many parts.
func texts(parts []string, most int, tell func(text string)) {
	var grow func(text string, n int)
	grow = func(text string, n int) {
		tell(text)
		if n == most {
			return
		}
		for _, p := range parts {
			grow(text+p, n+1)
		}
	}
	grow("", 0)
}

func TestTemplateReckonedOtherwise(t *testing.T) { // P22.1
	groups, known := 10, []string{"", "x", "a", "a0"}
	check := func(s string) {
		l, f := edit.Template([]byte(s), groups, known)
		want, fault := slowTemplate(s, groups, known)
		if got := told(l); got != want || f != fault {
			t.Fatalf("%q: %s, %v, want %s, %v", s, got, f, want, fault)
		}
	}
	texts([]string{"$", "{", "}", "0", "1", "a", "-"}, 6, check)
	texts([]string{"$", "${", "}", "12", "00", "a", "_"}, 6, check)
	for c := range 256 {
		for _, s := range []string{"$%", "${%}", "${a%}", "${1%}", "$1%", "%$1"} {
			check(strings.ReplaceAll(s, "%", string([]byte{byte(c)})))
		}
	}
}

func TestTemplatesMemory(t *testing.T) { // Memory
	room := []byte("ab$1cd$$e${n}fREST")
	s := room[:len(room)-4]
	known := names()
	l, _ := edit.Template(s, 5, known)
	other, _ := edit.Template(s, 5, known)
	const want = `"ab"[1]"cd$e"[1]"f"`
	if string(room) != "ab$1cd$$e${n}fREST" || !slices.Equal(known, names()) {
		t.Fatal("what is handed in has changed")
	}
	clear(room)
	clear(known)
	if told(l) != want {
		t.Errorf("parts share memory with an argument: %s", told(l))
	}
	first := l[0].Text
	full := first[:cap(first)]
	for i := range full {
		full[i] = 'X'
	}
	if !bytes.Equal(l[0].Text, []byte("XX")) || told(l[1:]) != want[4:] || told(other) != want {
		t.Errorf("texts share memory: %s, %s", told(l), told(other))
	}
}
