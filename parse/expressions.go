package parse

import "oberlin/api"

func (p *parser) expression() api.Node { return p.within(p.relation) }

func (p *parser) arguments() []api.Node { return p.bracketed(p.expression, ",") }

func (p *parser) relation() api.Node {
	left := p.sum()
	switch {
	case p.has("IS"):
		return api.Node{Kind: api.Is, At: left.At, Subs: []api.Node{left, p.typeName()}}
	case compares(p.word()):
		sign := p.take()
		return operation(sign, left, p.sum())
	}
	return left
}

func (p *parser) sum() api.Node {
	n := p.node(api.Neg)
	if !p.has("-") {
		return p.chain(p.product(), adds, p.product)
	}
	n.Subs = []api.Node{p.product()}
	return p.chain(n, adds, p.product)
}

func (p *parser) product() api.Node { return p.chain(p.factor(), multiplies, p.factor) }

// chain joins what stands left, and the parts behind it, by operators, from the left.
func (p *parser) chain(left api.Node, joins func(string) bool, part func() api.Node) api.Node {
	for count := 1; joins(p.word()); count++ {
		sign := p.take()
		if count > api.MaxDeep {
			p.throw(api.ErrLimit)
		}
		left = operation(sign, left, part())
	}
	return left
}

func operation(sign string, left, right api.Node) api.Node {
	return api.Node{Kind: api.Op, Name: sign, At: left.At, Subs: []api.Node{left, right}}
}

func compares(w string) bool {
	switch w {
	case "=", "#", "<", "<=", ">", ">=":
		return true
	}
	return false
}

func adds(w string) bool { return w == "+" || w == "-" || w == "OR" }

func multiplies(w string) bool { return w == "*" || w == "DIV" || w == "MOD" || w == "&" }

func (p *parser) factor() api.Node {
	switch p.word() {
	case "TRUE":
		return p.literal(api.True)
	case "FALSE":
		return p.literal(api.False)
	case "NIL":
		return p.literal(api.Nil)
	case "~":
		return p.negation()
	case "(":
		return p.inBrackets()
	}
	if p.nameIsNext() {
		return p.designatorOrCall()
	}
	n := p.node(api.Number)
	n.Num = p.number()
	return n
}

// literal is a kept word that stands for itself.
func (p *parser) literal(kind int) api.Node {
	n := p.node(kind)
	p.take()
	return n
}

func (p *parser) negation() api.Node {
	n := p.node(api.Not)
	p.want("~")
	n.Subs = []api.Node{p.within(p.factor)}
	return n
}

func (p *parser) inBrackets() api.Node {
	p.want("(")
	n := p.expression()
	p.want(")")
	return n
}

func (p *parser) designatorOrCall() api.Node {
	n := p.designator()
	if p.word() != "(" {
		return n
	}
	return api.Node{Kind: api.Call, At: n.At, Subs: append([]api.Node{n}, p.arguments()...)}
}

func (p *parser) designator() api.Node {
	n := p.named(api.Ref)
	for count := 1; p.partIsNext(); count++ {
		n = p.part(n)
		if count > api.MaxDeep {
			p.throw(api.ErrLimit)
		}
	}
	return n
}

func (p *parser) partIsNext() bool {
	switch p.word() {
	case ".", "[", "^", "{":
		return true
	}
	return false
}

// part is a designator with one part more behind it.
func (p *parser) part(of api.Node) api.Node {
	n := api.Node{At: of.At, Subs: []api.Node{of}}
	switch p.take() {
	case ".":
		n.Kind = api.Dot
		n.Name = p.name()
	case "[":
		n.Kind = api.Index
		n.Subs = append(n.Subs, p.expression())
		p.want("]")
	case "^":
		n.Kind = api.Deref
	case "{":
		n.Kind = api.Guard
		n.Subs = append(n.Subs, p.typeName())
		p.want("}")
	}
	return n
}
