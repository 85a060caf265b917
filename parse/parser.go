package parse

import (
	"slices"

	"rubricator/api"
)

// Modes of a TokOpen, as layer 13 numbers them.
const (
	openGroup = iota
	openPlain
	openNamed
	openAhead
	openNotAhead
	openBehind
	openNotBehind
	openAtomic
)

// parser takes tokens one by one, so that the first one that can't stand where it does is the one that is told. Which of its parts takes the next token is a method value that the tokens so far have left.
type parser struct {
	next    func(t api.Token) api.Errno
	bodies  []body   // the whole pattern, and the groups, looks and atomic parts that are open in it
	classes []class  // the classes that are open, within the last body
	names   []string // of the groups with a number that have begun; empty, if one has none
}

func newParser() *parser {
	p := &parser{bodies: []body{{}}}
	p.next = p.outside
	return p
}

// read takes tokens up to the first that can't stand there.
func (p *parser) read(l []api.Token) api.Fault {
	for _, t := range l {
		if e := p.next(t); e != api.OK {
			return api.Fault{Code: e, At: t.Start}
		}
	}
	return api.Fault{}
}

// depth is how many brackets are open.
func (p *parser) depth() int { return len(p.bodies) - 1 + len(p.classes) }

// body is the innermost one.
func (p *parser) body() *body { return &p.bodies[len(p.bodies)-1] }

// outside takes a token outside of classes.
func (p *parser) outside(t api.Token) api.Errno {
	switch t.Kind {
	case api.TokOpen:
		return p.open(t)
	case api.TokClose:
		return p.close()
	case api.TokBar:
		p.body().bar()
		return api.OK
	case api.TokRepeat:
		return p.body().repeat(t)
	case api.TokBack:
		return p.back(t)
	case api.TokClass:
		return p.openClass(t)
	}
	p.body().add(leaf(t))
	return api.OK
}

func (p *parser) open(t api.Token) api.Errno {
	numbered := t.Mode == openGroup || t.Mode == openNamed
	switch {
	case p.depth() == api.MaxDepth:
		return api.ErrDeep
	case t.Name != "" && slices.Contains(p.names, t.Name):
		return api.ErrGroup
	case numbered && len(p.names) == api.MaxGroups:
		return api.ErrFull
	case numbered:
		p.names = append(p.names, t.Name)
	}
	p.bodies = append(p.bodies, body{around: p.bracket(t)})
	return api.OK
}

// bracket is the node of a bracket that opens, still without its kid. The last name is its own, if it has a number.
func (p *parser) bracket(t api.Token) api.Node {
	switch t.Mode {
	case openPlain:
		return api.Node{Kind: api.NodeGroup}
	case openAhead:
		return api.Node{Kind: api.NodeLook, Mode: api.Ahead}
	case openNotAhead:
		return api.Node{Kind: api.NodeLook, Mode: api.NotAhead}
	case openBehind:
		return api.Node{Kind: api.NodeLook, Mode: api.Behind}
	case openNotBehind:
		return api.Node{Kind: api.NodeLook, Mode: api.NotBehind}
	case openAtomic:
		return api.Node{Kind: api.NodeAtomic}
	}
	return api.Node{Kind: api.NodeGroup, A: len(p.names), Name: t.Name}
}

func (p *parser) close() api.Errno {
	if len(p.bodies) == 1 {
		return api.ErrMark
	}
	closed := *p.body()
	p.bodies = p.bodies[:len(p.bodies)-1]
	n := closed.around
	n.Kids = []api.Node{closed.node()}
	p.body().add(n)
	return api.OK
}

func (p *parser) back(t api.Token) api.Errno {
	number := t.A
	if t.Name != "" {
		number = slices.Index(p.names, t.Name) + 1
	}
	if number < 1 || number > len(p.names) {
		return api.ErrGroup
	}
	p.body().add(api.Node{Kind: api.NodeBack, A: number})
	return api.OK
}

// leaf is the node of a token that is a part, or a class's member, by itself.
func leaf(t api.Token) api.Node {
	switch t.Kind {
	case api.TokAny:
		return api.Node{Kind: api.NodeAny}
	case api.TokAssert:
		return api.Node{Kind: api.NodeAssert, Mode: t.Mode}
	case api.TokProp:
		return api.Node{Kind: api.NodeProp, Name: t.Name, Neg: t.Neg}
	case api.TokCluster:
		return api.Node{Kind: api.NodeCluster}
	}
	return api.Node{Kind: api.NodeChar, A: t.A}
}
