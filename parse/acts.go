package parse

import "oberlin/api"

func (p *parser) acts() api.Node { return p.within(p.actList) }

func (p *parser) actList() api.Node {
	n := p.node(api.List)
	for {
		if !p.nothingIsNext() {
			n.Subs = append(n.Subs, p.act())
		}
		if !p.has(";") {
			return n
		}
	}
}

// nothingIsNext says whether the next word ends an act, or what RETURN answers, ahead of its first word.
func (p *parser) nothingIsNext() bool {
	switch p.word() {
	case ";", "END", "ELSIF", "ELSE", "UNTIL", "":
		return true
	}
	return false
}

func (p *parser) act() api.Node {
	switch p.word() {
	case "IF":
		return p.choice()
	case "WHILE":
		return p.whileLoop()
	case "REPEAT":
		return p.repeatLoop()
	case "RETURN":
		return p.returning()
	case "NEW":
		return p.builtIn(api.New, p.designator)
	case "OUT":
		return p.builtIn(api.Out, p.expression)
	case "GET":
		return p.builtIn(api.Get, p.designator)
	case "ASSERT":
		return p.builtIn(api.Assert, p.expression)
	}
	return p.assignmentOrCall()
}

func (p *parser) choice() api.Node {
	n := p.node(api.If)
	p.want("IF")
	n.Subs = p.branch()
	for p.has("ELSIF") {
		n.Subs = append(n.Subs, p.branch()...)
	}
	if p.has("ELSE") {
		n.Num = 1
		n.Subs = append(n.Subs, p.acts())
	}
	p.want("END")
	return n
}

// branch is a condition and its acts.
func (p *parser) branch() []api.Node {
	condition := p.expression()
	p.want("THEN")
	return []api.Node{condition, p.acts()}
}

func (p *parser) whileLoop() api.Node {
	n := p.node(api.While)
	p.want("WHILE")
	condition := p.expression()
	p.want("DO")
	n.Subs = []api.Node{condition, p.acts()}
	p.want("END")
	return n
}

func (p *parser) repeatLoop() api.Node {
	n := p.node(api.Repeat)
	p.want("REPEAT")
	body := p.acts()
	p.want("UNTIL")
	n.Subs = []api.Node{body, p.expression()}
	return n
}

func (p *parser) returning() api.Node {
	n := p.node(api.Return)
	p.want("RETURN")
	if !p.nothingIsNext() {
		n.Subs = []api.Node{p.expression()}
	}
	return n
}

// builtIn is a kept word with one part in brackets.
func (p *parser) builtIn(kind int, part func() api.Node) api.Node {
	n := p.node(kind)
	p.take()
	p.want("(")
	n.Subs = []api.Node{part()}
	p.want(")")
	return n
}

func (p *parser) assignmentOrCall() api.Node {
	n := p.node(api.Do)
	left := p.designator()
	n.Subs = []api.Node{left}
	switch p.word() {
	case ":=":
		p.take()
		n.Kind = api.Assign
		n.Subs = append(n.Subs, p.expression())
	case "(":
		n.Subs = append(n.Subs, p.arguments()...)
	}
	return n
}
