package tree

import (
	"slices"
	"strconv"
	"strings"

	"rubricator/api"
	"rubricator/token"
)

const unbounded = -1 // the greatest number of a repetition that may go on

// writer puts a tree's pattern down while it looks whether it is one, so that what would be too long is given up early. Its methods tell whether it still may be one.
type writer struct {
	text   strings.Builder
	room   int      // bytes that may still come
	depth  int      // brackets that are open
	groups int      // with a number, that have begun
	names  []string // of these
}

// patternOf is the pattern of a tree; false, if it is none.
func patternOf(n api.Node) (string, bool) {
	w := writer{room: api.MaxPattern}
	if !w.body(n) {
		return "", false
	}
	return w.text.String(), true
}

func (w *writer) body(n api.Node) bool {
	switch n.Kind {
	case api.NodeSeq:
		return w.sequence(n)
	case api.NodeAlt:
		return w.alternatives(n)
	}
	return false
}

func (w *writer) alternatives(n api.Node) bool {
	if !othersZero(n) || len(n.Kids) < 2 {
		return false
	}
	for i, kid := range n.Kids {
		if i > 0 && !w.put("|") || !w.sequence(kid) {
			return false
		}
	}
	return true
}

func (w *writer) sequence(n api.Node) bool {
	if n.Kind != api.NodeSeq || !othersZero(n) {
		return false
	}
	for _, kid := range n.Kids {
		if !w.part(kid) {
			return false
		}
	}
	return true
}

func (w *writer) part(n api.Node) bool {
	if !othersZero(n) {
		return false
	}
	switch n.Kind {
	case api.NodeChar:
		return w.put(token.Print(n.A, false))
	case api.NodeAny:
		return w.put(".")
	case api.NodeClass:
		return w.class(n)
	case api.NodeProp:
		return w.property(n)
	case api.NodeRepeat:
		return w.repeat(n)
	case api.NodeGroup:
		return w.group(n)
	case api.NodeLook:
		return w.enclosed(textOf(n.Mode, "(?=", "(?!", "(?<=", "(?<!"), n)
	case api.NodeAtomic:
		return w.enclosed("(?>", n)
	case api.NodeAssert:
		return w.put(textOf(n.Mode, "", "^", "$", `\A`, `\z`, `\b`, `\B`, `\b{g}`, `\B{g}`, `\b{w}`, `\B{w}`))
	case api.NodeBack:
		return n.A > 0 && n.A <= w.groups && w.put(`\k{`+strconv.Itoa(n.A)+`}`)
	case api.NodeCluster:
		return w.put(`\X`)
	}
	return false
}

// enclosed is a body between brackets.
func (w *writer) enclosed(open string, n api.Node) bool {
	if len(n.Kids) != 1 || !w.enter(open) || !w.body(n.Kids[0]) {
		return false
	}
	return w.leave(")")
}

func (w *writer) group(n api.Node) bool {
	switch {
	case n.A == 0 && n.Name == "":
		return w.enclosed("(?:", n)
	case n.A != w.groups+1 || n.A > api.MaxGroups:
		return false
	}
	w.groups++
	if n.Name == "" {
		return w.enclosed("(", n)
	}
	open := "(?<" + n.Name + ">"
	if !named(open, n.Name) || slices.Contains(w.names, n.Name) {
		return false
	}
	w.names = append(w.names, n.Name)
	return w.enclosed(open, n)
}

func (w *writer) repeat(n api.Node) bool {
	if len(n.Kids) != 1 || !repeatable(n.Kids[0].Kind) || n.Mode < api.Greedy || n.Mode > api.Possessive {
		return false
	}
	times := timesText(n.A, n.B)
	return times != "" && w.part(n.Kids[0]) && w.put(times+textOf(n.Mode, "", "?", "+"))
}

// timesText is how a pattern says how often; empty, if that can't be.
func timesText(least, most int) string {
	falls := most != unbounded && most < least
	switch {
	case least < 0 || falls || max(least, most) > api.MaxRepeat:
		return ""
	case least == 0 && most == unbounded:
		return "*"
	case least == 1 && most == unbounded:
		return "+"
	case least == 0 && most == 1:
		return "?"
	case least == most:
		return "{" + strconv.Itoa(least) + "}"
	case most == unbounded:
		return "{" + strconv.Itoa(least) + ",}"
	}
	return "{" + strconv.Itoa(least) + "," + strconv.Itoa(most) + "}"
}

func (w *writer) property(n api.Node) bool {
	text := propertyText(n.Name, n.Neg)
	return named(text, n.Name) && w.put(text)
}

func propertyText(name string, neg bool) string {
	switch {
	case name != "d" && name != "w" && name != "s":
		if neg {
			return `\P{` + name + `}`
		}
		return `\p{` + name + `}`
	case neg:
		return `\` + strings.ToUpper(name)
	}
	return `\` + name
}

// class is a class with its brackets.
func (w *writer) class(n api.Node) bool {
	open := "["
	if n.Neg {
		open = "[^"
	}
	return w.enter(open) && w.inside(n) && w.leave("]")
}

// inside is a class without its brackets.
func (w *writer) inside(n api.Node) bool {
	switch n.Mode {
	case api.Union:
		return w.members(n.Kids)
	case api.Meet, api.Minus, api.Xor:
		return w.sides(n)
	}
	return false
}

func (w *writer) members(l []api.Node) bool {
	for _, n := range l {
		if !w.member(n) {
			return false
		}
	}
	return len(l) > 0
}

func (w *writer) member(n api.Node) bool {
	if !othersZero(n) {
		return false
	}
	switch n.Kind {
	case api.NodeChar:
		return w.put(token.Print(n.A, true))
	case api.NodeRange:
		return n.A <= n.B && w.put(token.Print(n.A, true)) && w.put("-") && w.put(token.Print(n.B, true))
	case api.NodeProp:
		return w.property(n)
	case api.NodeClass:
		return w.class(n)
	}
	return false
}

// sides is two classes and what stands between them. Its room is taken ahead of the left side, so that left sides within one another come to an end, however they are made.
func (w *writer) sides(n api.Node) bool {
	if len(n.Kids) != 2 {
		return false
	}
	left, right := n.Kids[0], n.Kids[1]
	between := operator(n.Mode)
	if !isSide(left) || !isSide(right) || right.Mode != api.Union || !w.take(len(between)) || !w.inside(left) {
		return false
	}
	w.text.WriteString(between)
	return w.inside(right)
}

func isSide(n api.Node) bool { return n.Kind == api.NodeClass && !n.Neg && othersZero(n) }

// operator is what stands between a class's sides; empty, if its mode has none.
func operator(mode int) string { return textOf(mode, "", "&&", "--", "~~") }

// textOf is the text of a mode; empty, if there is none.
func textOf(mode int, texts ...string) string {
	if mode < 0 || mode >= len(texts) {
		return ""
	}
	return texts[mode]
}

// enter opens a bracket, and leave closes it.
func (w *writer) enter(open string) bool {
	w.depth++
	return w.depth <= api.MaxDepth && w.put(open)
}

func (w *writer) leave(end string) bool {
	w.depth--
	return w.put(end)
}

// put writes a piece of the pattern. An empty one is what a field says that can't be.
func (w *writer) put(text string) bool {
	if text == "" || !w.take(len(text)) {
		return false
	}
	w.text.WriteString(text)
	return true
}

// take leaves less room.
func (w *writer) take(size int) bool {
	w.room -= size
	return w.room >= 0
}
