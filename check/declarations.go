package check

import "oberlin/api"

func (c *checker) imports(l []api.Node) {
	for _, n := range l {
		m := c.modules[n.Name]
		if m == nil {
			throw(n, api.ErrName)
		}
		if c.home.names[n.Name] != nil {
			throw(n, api.ErrTwice)
		}
		c.home.names[n.Name] = &Thing{Kind: AModule, module: m}
	}
}

func (c *checker) constants(l []api.Node) {
	for _, n := range l {
		t := &Thing{Kind: AConstant}
		c.declare(n, t)
		t.Type, t.Value = c.value(n.Subs[0])
		t.valued = true
	}
}

func (c *checker) variables(l []api.Node) {
	words := 0
	for _, n := range l {
		t := &Thing{Kind: AVariable, First: words}
		c.declare(n, t)
		t.Type = c.typeName(n.Subs[0])
		words += t.Type.Words
		if words > api.MaxSize {
			throw(n, api.ErrLimit)
		}
	}
}

// procedures: each may be called by all, so all heads are there ahead of what is behind them.
func (c *checker) procedures(l []api.Node) {
	var names []map[string]*Thing
	for _, n := range l {
		names = append(names, c.head(n))
	}
	for i, n := range l {
		c.inner = names[i]
		c.result = c.home.names[n.Name].Procedure.Result
		c.innerVariables(n.Subs[2].Subs)
		c.acts(n.Subs[3].Subs)
	}
	c.inner, c.result = nil, nil
}

// head declares a procedure, and answers the names of its parameters.
func (c *checker) head(n api.Node) map[string]*Thing {
	p := &Procedure{}
	c.declare(n, &Thing{Kind: AProcedure, Procedure: p})
	c.inner = map[string]*Thing{}
	for _, x := range n.Subs[0].Subs {
		p.Parameters = append(p.Parameters, c.parameter(x))
	}
	if result := n.Subs[1]; result.Kind != api.None {
		p.Result = c.oneWordType(result)
	}
	return c.inner
}

// parameter: its name is there ahead of its type, and hides what the module means by it.
func (c *checker) parameter(n api.Node) Parameter {
	p := Parameter{ByVariable: n.Num == 1}
	t := c.declareInner(n, nil)
	if p.ByVariable {
		p.Type = c.typeName(n.Subs[0])
	} else {
		p.Type = c.oneWordType(n.Subs[0])
	}
	t.Type = p.Type
	return p
}

// innerVariables of a procedure: as yet its names are those of its parameters.
func (c *checker) innerVariables(l []api.Node) {
	words := len(c.inner)
	for _, n := range l {
		of := c.typeName(n.Subs[0])
		c.declareInner(n, of)
		words += of.Words
		if words > api.MaxSize {
			throw(n, api.ErrLimit)
		}
	}
}
