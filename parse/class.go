package parse

import "rubricator/api"

// class is a class that is open, as far as it has been read.
type class struct {
	neg     bool
	mode    int        // of the operator ahead of the members at hand; Union, if there is none
	left    api.Node   // what stands ahead of that operator
	members []api.Node // at hand
}

func (c *class) add(n api.Node) { c.members = append(c.members, n) }

func (c *class) last() *api.Node { return &c.members[len(c.members)-1] }

// operator lets all so far be the left side of what comes.
func (c *class) operator(mode int) { *c = class{neg: c.neg, mode: mode, left: c.inner()} }

// inner is what stands between the brackets, up to the members at hand.
func (c *class) inner() api.Node {
	right := api.Node{Kind: api.NodeClass, Kids: c.members}
	if c.mode == api.Union {
		return right
	}
	return api.Node{Kind: api.NodeClass, Mode: c.mode, Kids: []api.Node{c.left, right}}
}

func (c *class) node() api.Node {
	n := c.inner()
	n.Neg = c.neg
	return n
}

// class is the innermost one.
func (p *parser) class() *class { return &p.classes[len(p.classes)-1] }

func (p *parser) openClass(t api.Token) api.Errno {
	if p.depth() == api.MaxDepth {
		return api.ErrDeep
	}
	p.classes = append(p.classes, class{neg: t.Neg})
	p.next = p.member
	return api.OK
}

// closeClass lets a class be a member of the one around it, or, if there is none, a part.
func (p *parser) closeClass() {
	n := p.class().node()
	p.classes = p.classes[:len(p.classes)-1]
	if len(p.classes) == 0 {
		p.body().add(n)
		p.next = p.outside
		return
	}
	p.class().add(n)
	p.next = p.further
}

// member takes a token where a member must come.
func (p *parser) member(t api.Token) api.Errno {
	switch t.Kind {
	case api.TokChar, api.TokProp:
		p.class().add(leaf(t))
		p.next = p.further
		return api.OK
	case api.TokClass:
		return p.openClass(t)
	}
	return api.ErrMark
}

// further takes a token behind a member.
func (p *parser) further(t api.Token) api.Errno {
	switch t.Kind {
	case api.TokEnd:
		p.closeClass()
		return api.OK
	case api.TokSet:
		p.class().operator(t.Mode)
		p.next = p.member
		return api.OK
	case api.TokDash:
		if p.class().last().Kind != api.NodeChar {
			return api.ErrMark
		}
		p.next = p.rangeEnd
		return api.OK
	}
	return p.member(t)
}

// rangeEnd takes a token behind a dash: with it the last member, a code point, becomes a range.
func (p *parser) rangeEnd(t api.Token) api.Errno {
	last := p.class().last()
	switch {
	case t.Kind != api.TokChar:
		return api.ErrMark
	case t.A < last.A:
		return api.ErrRange
	}
	*last = api.Node{Kind: api.NodeRange, A: last.A, B: t.A}
	p.next = p.further
	return api.OK
}
