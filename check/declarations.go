package check

import "oberlin/api"

func (c *checker) imports(l []api.Node) {
	for _, n := range l {
		m := c.modules[n.Name]
		if m == nil {
			throw(n, api.ErrName)
		}
		if c.home.names[n.Name] != nil {
			throw(n, api.ErrTwice)
		}
		c.home.names[n.Name] = &Thing{Kind: AModule, module: m}
		c.home.Imports = append(c.home.Imports, m)
	}
}

func (c *checker) constants(l []api.Node) {
	for _, n := range l {
		t := &Thing{Kind: AConstant}
		c.declare(n, t)
		t.Type, t.Value = c.value(n.Subs[0])
		t.valued = true
	}
}

func (c *checker) variables(l []api.Node) {
	words := 0
	for _, n := range l {
		t := &Thing{Kind: AVariable, First: words}
		c.declare(n, t)
		t.Type = c.typeName(n.Subs[0])
		words += t.Type.Words
		if words > api.MaxSize {
			throw(n, api.ErrLimit)
		}
	}
	c.home.Words = words
}

// procedures: each may be called by all, so all heads are there ahead of what is behind them.
func (c *checker) procedures(l []api.Node) {
	var heads []*Procedure
	for _, n := range l {
		heads = append(heads, c.head(n))
	}
	for i, n := range l {
		p := heads[i]
		c.Scope, c.result = p.Scope, p.Result
		p.Words = c.innerVariables(n.Subs[2].Subs)
		c.acts(p.Acts)
	}
	c.Scope, c.result = c.home.Scope, nil
}

// head declares a procedure, and its parameters.
func (c *checker) head(n api.Node) *Procedure {
	p := &Procedure{Body: Body{Scope: c.home.Scope, Acts: n.Subs[3].Subs}}
	p.inner = map[string]*Thing{}
	c.declare(n, &Thing{Kind: AProcedure, Procedure: p})
	c.Scope = p.Scope
	for _, x := range n.Subs[0].Subs {
		p.Parameters = append(p.Parameters, c.parameter(x))
	}
	if result := n.Subs[1]; result.Kind != api.None {
		p.Result = c.oneWordType(result)
	}
	return p
}

// parameter: its name is there ahead of its type, and hides what the module means by it.
func (c *checker) parameter(n api.Node) *Thing {
	t := &Thing{First: len(c.inner), ByVariable: n.Num == 1}
	c.declareInner(n, t)
	if t.ByVariable {
		t.Type = c.typeName(n.Subs[0])
	} else {
		t.Type = c.oneWordType(n.Subs[0])
	}
	return t
}

// innerVariables of a procedure, whose names are those of its parameters as yet; it answers the words of both.
func (c *checker) innerVariables(l []api.Node) int {
	words := len(c.inner)
	for _, n := range l {
		t := &Thing{First: words, Type: c.typeName(n.Subs[0])}
		c.declareInner(n, t)
		words += t.Type.Words
		if words > api.MaxSize {
			throw(n, api.ErrLimit)
		}
	}
	return words
}
