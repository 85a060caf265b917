package token_test

import (
	"regexp"
	"slices"
	"strconv"
	"strings"
	"testing"
	"unicode/utf8"

	"rubricator/api"
	"rubricator/names"
	"rubricator/token"
)

// Tokens in another way: expressions for what a token is, and for what is the beginning of one.

const nameForm = `[A-Za-z_][A-Za-z0-9_]{0,19}`

// form is a kind of tokens: an expression, and the token of what its brackets took, or the error of what they mean.
type form struct {
	whole *regexp.Regexp
	make  func(m []string) (api.Token, api.Errno)
}

func formOf(expr string, make func(m []string) (api.Token, api.Errno)) form {
	return form{regexp.MustCompile(`^(?s:` + expr + `)`), make}
}

// fixed is forms that mean one token each.
func fixed(expr string, x api.Token) form {
	return formOf(expr, func([]string) (api.Token, api.Errno) { return x, api.OK })
}

var (
	cutOutside = regexp.MustCompile(`^(?s:\\|\\[pP](\{[^}]*)?|\\x(\{[0-9a-fA-F]{0,6})?|\\k(\{[0-9]{0,2}|<(` + nameForm + `)?)?|\\[bB]\{[gw]?|\(\?(<(` + nameForm + `)?)?|\{([0-9]{1,3}(,[0-9]{0,3})?)?)$`)
	cutWithin  = regexp.MustCompile(`^(?s:\\|\\[pP](\{[^}]*)?|\\x(\{[0-9a-fA-F]{0,6})?)$`)
	exprOf     = regexp.MustCompile(`^\\[pP]\{([^}]*)`)
)

// both is the forms within classes and outside of them.
func both() []form {
	return []form{
		formOf(`\\([dwsDWS])`, func(m []string) (api.Token, api.Errno) {
			return api.Token{Kind: api.TokProp, Name: strings.ToLower(m[1]), Neg: m[1] != strings.ToLower(m[1])}, api.OK
		}),
		formOf(`\\([pP])\{([^}]*)\}`, func(m []string) (api.Token, api.Errno) {
			kind, value, e := names.Resolve(m[2])
			if e != api.OK {
				return api.Token{}, e
			}
			ahead := map[int]string{api.PropCategory: "gc=", api.PropScript: "sc="}[kind]
			return api.Token{Kind: api.TokProp, Name: ahead + value, Neg: m[1] == "P"}, api.OK
		}),
		fixed(`\\n`, char(10)), fixed(`\\t`, char(9)), fixed(`\\r`, char(13)),
		formOf(`\\x\{([0-9a-fA-F]{1,6})\}`, func(m []string) (api.Token, api.Errno) {
			r, _ := strconv.ParseInt(m[1], 16, 64)
			if !utf8.ValidRune(rune(r)) {
				return api.Token{}, api.ErrEscape
			}
			return char(int(r)), api.OK
		}),
		formOf(`\\([^A-Za-z0-9])`, one), fixed(`\[\^`, class(true)), fixed(`\[`, class(false)),
	}
}

func one(m []string) (api.Token, api.Errno) {
	r, _ := utf8.DecodeRuneInString(m[1])
	return char(int(r)), api.OK
}

func within() []form {
	return append(both(), fixed(`\]`, end), fixed(`&&`, set(api.Meet)), fixed(`--`, set(api.Minus)), fixed(`~~`, set(api.Xor)), fixed(`-`, dash), formOf(`([^\\])`, one))
}

func outside() []form {
	return append(both(),
		fixed(`\.`, dot), fixed(`\|`, bar), fixed(`\)`, shut), fixed(`\(\?:`, open(1, "")), fixed(`\(\?=`, open(3, "")), fixed(`\(\?!`, open(4, "")), fixed(`\(\?<=`, open(5, "")), fixed(`\(\?<!`, open(6, "")), fixed(`\(\?>`, open(7, "")),
		formOf(`\(\?<(`+nameForm+`)>`, func(m []string) (api.Token, api.Errno) { return open(2, m[1]), api.OK }),
		formOf(`([*+?]|\{([0-9]{1,3})(,?)([0-9]{0,3})\})([?+]?)`, times),
		fixed(`\^`, assertion(api.AtBegin)), fixed(`\$`, assertion(api.AtEnd)), fixed(`\\A`, assertion(api.TextBegin)), fixed(`\\z`, assertion(api.TextEnd)),
		fixed(`\\b\{g\}`, assertion(api.Cluster)), fixed(`\\B\{g\}`, assertion(api.NoCluster)), fixed(`\\b\{w\}`, assertion(api.Words)), fixed(`\\B\{w\}`, assertion(api.NoWords)), fixed(`\\X`, api.Token{Kind: api.TokCluster}),
		formOf(`\\([1-9])`, backBy), formOf(`\\k\{([0-9]{1,2})\}`, backBy),
		formOf(`\\k<(`+nameForm+`)>`, func(m []string) (api.Token, api.Errno) { return back(0, m[1]), api.OK }),
		formOf(`([^\\({])`, one))
}

func backBy(m []string) (api.Token, api.Errno) {
	n, _ := strconv.Atoi(m[1])
	if n == 0 {
		return api.Token{}, api.ErrEscape
	}
	return back(n, ""), api.OK
}

func times(m []string) (api.Token, api.Errno) {
	x := api.Token{Kind: api.TokRepeat, Mode: map[string]int{"?": api.Lazy, "+": api.Possessive}[m[5]]}
	least, most := map[string]string{"*": "0", "+": "1", "?": "0"}[m[1]], map[string]string{"*": "-1", "+": "-1", "?": "1"}[m[1]]
	switch {
	case m[2] == "":
	case m[3] == "" && m[4] != "": // digits without a comma between: more than three of them
		return api.Token{}, api.ErrRepeat
	case m[3] == "":
		least, most = m[2], m[2]
	case m[4] == "":
		least, most = m[2], "-1"
	default:
		least, most = m[2], m[4]
	}
	x.A, _ = strconv.Atoi(least)
	x.B, _ = strconv.Atoi(most)
	if x.A > 100 || x.B > 100 || x.B >= 0 && x.B < x.A {
		return api.Token{}, api.ErrRepeat
	}
	return x, api.OK
}

// malformed is where the first malformed part of a text stands; -1, if all is well-formed.
func malformed(s string) int {
	for i, r := range s {
		if r == utf8.RuneError && !strings.HasPrefix(s[i:], "\ufffd") {
			return i
		}
	}
	return -1
}

// badBytes is where in a rest of a pattern bytes are malformed that a token must not have; -1, if nowhere.
func badBytes(rest string) int {
	first := rest
	for i := range rest {
		if i > 0 {
			first = rest[:i]
			break
		}
	}
	if at := malformed(first); at >= 0 {
		return at
	}
	if strings.HasPrefix(rest, `\`) && len(rest) > 1 {
		second := rest[1:]
		for i := range second {
			if i > 0 {
				second = second[:i]
				break
			}
		}
		if at := malformed(second); at >= 0 {
			return 1 + at
		}
	}
	if m := exprOf.FindStringSubmatchIndex(rest); m != nil {
		if at := malformed(rest[m[2]:m[3]]); at >= 0 {
			return m[2] + at
		}
	}
	return -1
}

// reckoner has all forms, made once.
type reckoner struct{ within, outside []form }

// first is the first token of a rest of a pattern, and its length, or a fault within that rest.
func (k reckoner) first(rest string, inClass bool) (api.Token, int, api.Fault) {
	forms, cut := k.outside, cutOutside
	if inClass {
		forms, cut = k.within, cutWithin
	}
	if at := badBytes(rest); at >= 0 {
		return api.Token{}, 0, api.Fault{Code: api.ErrBytes, At: at}
	}
	if cut.MatchString(rest) {
		return api.Token{}, 0, api.Fault{Code: api.ErrEnd, At: len(rest)}
	}
	if !inClass && strings.HasPrefix(rest, "(") && !strings.HasPrefix(rest, "(?") {
		return open(0, ""), 1, api.Fault{}
	}
	for mark, mode := range map[string]int{`\b`: api.WordEdge, `\B`: api.NoWordEdge} {
		if !inClass && strings.HasPrefix(rest, mark) && !strings.HasPrefix(rest, mark+"{") {
			return assertion(mode), 2, api.Fault{}
		}
	}
	for _, x := range forms {
		if m := x.whole.FindStringSubmatch(rest); m != nil {
			got, e := x.make(m)
			return got, len(m[0]), api.Fault{Code: e}
		}
	}
	code := map[byte]api.Errno{'{': api.ErrRepeat, '(': api.ErrMark, '\\': api.ErrEscape}[rest[0]]
	return api.Token{}, 0, api.Fault{Code: code}
}

func (k reckoner) scan(p string) ([]api.Token, api.Fault) {
	var out []api.Token
	nested := 0
	for at := 0; at < len(p); {
		x, size, f := k.first(p[at:], nested > 0)
		if f.Code != api.OK {
			f.At += at
			return out, f
		}
		switch x.Kind {
		case api.TokClass:
			nested++
		case api.TokEnd:
			nested--
		}
		x.Start, x.End = at, at+size
		out = append(out, x)
		at += size
	}
	return out, api.Fault{}
}

// texts tells all texts of up to so many pieces.
func texts(pieces []string, most int, tell func(s string)) {
	var grow func(s string, n int)
	grow = func(s string, n int) {
		tell(s)
		if n == most {
			return
		}
		for _, piece := range pieces {
			grow(s+piece, n+1)
		}
	}
	grow("", 0)
}

func TestScanOfManyTexts(t *testing.T) { // P13.1, P13.4
	k := reckoner{within(), outside()}
	faults := map[api.Errno]int{}
	check := func(p string) {
		got, f := token.Scan([]byte(p))
		want, g := k.scan(p)
		if f != g || !slices.Equal(got, want) {
			t.Fatalf("Scan(%q) = %v, %v, want %v, %v", p, got, f, want, g)
		}
		at := 0
		for _, x := range got {
			if x.Start != at || x.End <= at {
				t.Fatalf("Scan(%q): the token %v stands not at %d", p, x, at)
			}
			at = x.End
		}
		if f.Code == api.OK && at != len(p) || at > len(p) {
			t.Fatalf("Scan(%q) ends at %d", p, at)
		}
		faults[f.Code]++
	}
	for _, c := range []struct {
		pieces string
		most   int
	}{
		{`a . | ( ) * + ? { } ^ $ [ ] - & ~ \ < > = ! : , 1 _ é`, 3},
		{`( (? < > n 1 _ = !`, 4}, {`{ } , 19 ?`, 6}, {`{1 {99, 0 2 } + a`, 4}, {`\ b \B { } g w 2`, 4}, {`\k \k{ \k< } > 0 7 n`, 4}, {`\x{ \ x d 8 0 }`, 4}, {`\x{ 1 0d f }`, 6},
		{`[ ] ^ - & ~ \ a`, 4}, {`[ ] \ b d n 1 k x`, 4}, {`\p{ \P{ } L u gc = : is`, 4}, {`\p{sc= L } zz`, 4}, {`[ \p { } Any zz`, 4},
	} {
		texts(strings.Split(c.pieces, " "), c.most, check)
	}
	texts([]string{"\\", "p", "{", "}", "L", "\xe2\x82", "\xff", "é", "["}, 4, check)
	texts([]string{"\\", "(?", "<", "{", "\xc3", "\xa9", "\xed\xa0", "n>"}, 4, check)
	for _, code := range []api.Errno{api.OK, api.ErrName, api.ErrValue, api.ErrEnd, api.ErrBytes, api.ErrEscape, api.ErrMark, api.ErrRepeat} {
		if faults[code] < 10 {
			t.Errorf("%d texts with the fault %d", faults[code], code)
		}
	}
}

func TestScanOfLongTexts(t *testing.T) { // P13.1, P13.4: texts that a rule of numbers makes, up to MaxPattern bytes
	k := reckoner{within(), outside()}
	pieces := []string{"a", "é", "\n", ".", "|", "(", "(?:", "(?<n>", "(?<=", "(?!", ")", "*", "+?", "{2,3}+", "{99}", "^", "$", `\A`, `\b`, `\B{w}`, `\d`, `\W`, `\p{Lu}`, `\P{sc=Greek}`, `\7`, `\k{12}`, `\k<n>`, `\X`, "]", "[a-z]", `[^\d--[2-4\]]~~\x{41}]`, "&&", "-", `\n`, `\x{1F600}`, `\.`, `\-`, "\U0001f600"}
	n := uint32(1)
	for size := range 400 {
		var p strings.Builder
		for range size {
			n = n*1664525 + 1013904223
			piece := pieces[int(n>>16)%len(pieces)]
			if p.Len()+len(piece) <= api.MaxPattern {
				p.WriteString(piece)
			}
		}
		got, f := token.Scan([]byte(p.String()))
		want, g := k.scan(p.String())
		if f != g || !slices.Equal(got, want) {
			t.Fatalf("Scan(%q) = %v, %v, want %v, %v", p.String(), got, f, want, g)
		}
	}
}
