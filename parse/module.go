package parse

import "oberlin/api"

// whole is a module, and nothing behind it.
func (p *parser) whole() api.Node {
	n := p.module()
	if p.word() != "" {
		p.refuse()
	}
	return n
}

func (p *parser) module() api.Node {
	n := p.node(api.Module)
	p.want("MODULE")
	n.Name = p.name()
	p.want(";")
	n.Subs = []api.Node{
		p.imports(),
		p.section("CONST", p.constant),
		p.section("TYPE", p.typeDeclaration),
		p.section("VAR", p.variable),
		p.procedures(),
		p.moduleActs(),
	}
	p.ending(n.Name)
	p.want(".")
	return n
}

// ending reads END and the name of what ends.
func (p *parser) ending(name string) {
	p.want("END")
	p.want(name)
}

func (p *parser) imports() api.Node {
	n := p.node(api.List)
	if p.has("IMPORT") {
		n.Subs = p.several(func() api.Node { return p.named(api.Import) }, ",")
		p.want(";")
	}
	return n
}

// section reads declarations behind their kept word; without it the section is empty.
func (p *parser) section(kept string, declaration func() api.Node) api.Node {
	n := p.node(api.List)
	if p.has(kept) {
		n.Subs = p.declarations(declaration)
	}
	return n
}

func (p *parser) declarations(declaration func() api.Node) []api.Node {
	var l []api.Node
	for p.nameIsNext() {
		l = append(l, declaration())
		p.want(";")
	}
	return l
}

func (p *parser) constant() api.Node {
	n := p.marked(api.Const)
	p.want("=")
	n.Subs = []api.Node{p.expression()}
	return n
}

func (p *parser) typeDeclaration() api.Node {
	n := p.marked(api.Named)
	p.want("=")
	n.Subs = []api.Node{p.typeItself()}
	return n
}

func (p *parser) variable() api.Node { return p.typed(p.marked(api.Var)) }

func (p *parser) field() api.Node { return p.typed(p.marked(api.Field)) }

func (p *parser) localVariable() api.Node { return p.typed(p.named(api.Var)) }

func (p *parser) parameter() api.Node {
	n := p.node(api.Param)
	if p.has("VAR") {
		n.Num = 1
	}
	n.Name = p.name()
	return p.typed(n)
}

// typed is a node, completed by the type name behind it.
func (p *parser) typed(n api.Node) api.Node {
	p.want(":")
	n.Subs = []api.Node{p.typeName()}
	return n
}

func (p *parser) typeName() api.Node {
	n := p.named(api.TypeName)
	if p.has(".") {
		n.Subs = []api.Node{{Kind: api.Ref, Name: n.Name, At: n.At}}
		n.Name = p.name()
	}
	return n
}

func (p *parser) typeItself() api.Node {
	switch p.word() {
	case "ARRAY":
		return p.array()
	case "RECORD":
		return p.record()
	case "POINTER":
		return p.pointer()
	}
	p.refuse()
	return api.Node{}
}

func (p *parser) array() api.Node {
	n := p.node(api.Array)
	p.want("ARRAY")
	n.Num = p.number()
	p.want("OF")
	n.Subs = []api.Node{p.typeName()}
	return n
}

func (p *parser) record() api.Node {
	n := p.node(api.Record)
	p.want("RECORD")
	base := p.node(api.None)
	if p.has("(") {
		base = p.typeName()
		p.want(")")
	}
	n.Subs = append([]api.Node{base}, p.declarations(p.field)...)
	p.want("END")
	return n
}

func (p *parser) pointer() api.Node {
	n := p.node(api.Pointer)
	p.want("POINTER")
	p.want("TO")
	n.Subs = []api.Node{p.typeName()}
	return n
}

func (p *parser) procedures() api.Node {
	n := p.node(api.List)
	for p.word() == "PROCEDURE" {
		n.Subs = append(n.Subs, p.procedure())
		p.want(";")
	}
	return n
}

func (p *parser) procedure() api.Node {
	n := p.node(api.Proc)
	p.want("PROCEDURE")
	head := p.marked(api.Proc)
	n.Name, n.Num = head.Name, head.Num
	parameters := p.parameters()
	result := p.result()
	p.want(";")
	variables := p.section("VAR", p.localVariable)
	p.want("BEGIN")
	n.Subs = []api.Node{parameters, result, variables, p.acts()}
	p.ending(n.Name)
	return n
}

func (p *parser) parameters() api.Node {
	n := p.node(api.List)
	if p.word() == "(" {
		n.Subs = p.bracketed(p.parameter, ";")
	}
	return n
}

func (p *parser) result() api.Node {
	if p.has(":") {
		return p.typeName()
	}
	return p.node(api.None)
}

// moduleActs are empty without BEGIN, and are not counted as a level then.
func (p *parser) moduleActs() api.Node {
	if p.has("BEGIN") {
		return p.acts()
	}
	return p.node(api.List)
}
