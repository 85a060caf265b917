package lower

import (
	"rubricator/api"
	"rubricator/class"
	"rubricator/props"
)

// maker makes what stands in the place of an item, by tables and options.
type maker struct {
	t *props.Tables
	o api.Options
	e api.Errno // the first one that class answered
}

// hasSet tells whether a node of that kind, in a tree, is an item of a set.
func hasSet(kind int) bool {
	switch kind {
	case api.NodeChar, api.NodeAny, api.NodeClass, api.NodeProp:
		return true
	}
	return false
}

// item is what stands in the place of a node that has a set.
func (m *maker) item(n api.Node) api.Node {
	set := m.set(n)
	if !hasTexts(n) {
		return set
	}
	texts := class.Texts(m.t, set.Set, m.o)
	if len(texts) == 0 {
		return set
	}
	return m.choice(texts, set)
}

// hasTexts tells whether a node may stand for texts of several items. Others can't: what a class with Neg leaves out would have to leave out texts too.
func hasTexts(n api.Node) bool {
	return n.Kind == api.NodeChar || n.Kind == api.NodeClass && !n.Neg
}

func (m *maker) set(n api.Node) api.Node {
	l, e := class.Set(m.t, n, m.o)
	if m.e == api.OK {
		m.e = e
	}
	return api.Node{Kind: api.NodeSet, Set: l}
}

// choice is one of the texts, or else an item of the set.
func (m *maker) choice(texts [][]int, set api.Node) api.Node {
	var l []api.Node
	for _, text := range texts {
		l = append(l, m.text(text))
	}
	l = append(l, sequence(set))
	return api.Node{Kind: api.NodeGroup, Kids: []api.Node{{Kind: api.NodeAlt, Kids: l}}}
}

func (m *maker) text(runes []int) api.Node {
	var l []api.Node
	for _, r := range runes {
		l = append(l, m.set(api.Node{Kind: api.NodeChar, A: r}))
	}
	return sequence(l...)
}

func sequence(l ...api.Node) api.Node { return api.Node{Kind: api.NodeSeq, Kids: l} }
