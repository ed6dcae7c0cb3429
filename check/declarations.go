package check

import "oberlin/api"

func (c *checker) imports(l []api.Node) {
	for _, n := range l {
		m := c.modules[n.Name]
		if m == nil {
			throw(n, api.ErrName)
		}
		if c.home.names[n.Name] != nil {
			throw(n, api.ErrTwice)
		}
		c.home.names[n.Name] = &thing{kind: aModule, module: m}
	}
}

func (c *checker) constants(l []api.Node) {
	for _, n := range l {
		t := &thing{kind: aConstant}
		c.declare(n, t)
		t.of, t.value = c.value(n.Subs[0])
		t.valued = true
	}
}

func (c *checker) variables(l []api.Node) {
	words := 0
	for _, n := range l {
		t := &thing{kind: aVariable}
		c.declare(n, t)
		t.of = c.typeName(n.Subs[0])
		words += t.of.words
		if words > api.MaxSize {
			throw(n, api.ErrLimit)
		}
	}
}

// procedures: each may be called by all, so all heads are there ahead of what is behind them.
func (c *checker) procedures(l []api.Node) {
	var names []map[string]*thing
	for _, n := range l {
		names = append(names, c.head(n))
	}
	for i, n := range l {
		c.inner = names[i]
		c.result = c.home.names[n.Name].procedure.result
		c.innerVariables(n.Subs[2].Subs)
		c.acts(n.Subs[3].Subs)
	}
	c.inner, c.result = nil, nil
}

// head declares a procedure, and answers the names of its parameters.
func (c *checker) head(n api.Node) map[string]*thing {
	p := &procedure{}
	c.declare(n, &thing{kind: aProcedure, procedure: p})
	c.inner = map[string]*thing{}
	for _, x := range n.Subs[0].Subs {
		p.parameters = append(p.parameters, c.parameter(x))
	}
	if result := n.Subs[1]; result.Kind != api.None {
		p.result = c.oneWordType(result)
	}
	return c.inner
}

// parameter: its name is there ahead of its type, and hides what the module means by it.
func (c *checker) parameter(n api.Node) parameter {
	p := parameter{byVariable: n.Num == 1}
	t := c.declareInner(n, nil)
	if p.byVariable {
		p.of = c.typeName(n.Subs[0])
	} else {
		p.of = c.oneWordType(n.Subs[0])
	}
	t.of = p.of
	return p
}

// innerVariables of a procedure: as yet its names are those of its parameters.
func (c *checker) innerVariables(l []api.Node) {
	words := len(c.inner)
	for _, n := range l {
		of := c.typeName(n.Subs[0])
		c.declareInner(n, of)
		words += of.words
		if words > api.MaxSize {
			throw(n, api.ErrLimit)
		}
	}
}
