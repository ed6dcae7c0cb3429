package check

import "oberlin/api"

func (c *checker) acts(l []api.Node) {
	for _, n := range l {
		c.act(n)
	}
}

func (c *checker) act(n api.Node) {
	switch n.Kind {
	case api.Assign:
		c.assignment(n)
	case api.Do:
		if c.call(n) != nil {
			throw(n, api.ErrType)
		}
	case api.If, api.While, api.Repeat:
		c.conditional(n.Subs)
	case api.Return:
		c.returning(n)
	case api.New:
		if c.variable(n.Subs[0]).Form != APointer {
			throw(n.Subs[0], api.ErrType)
		}
	case api.Get:
		needType(n.Subs[0], c.variable(n.Subs[0]), c.integer)
	case api.Out:
		c.want(n.Subs[0], c.integer)
	case api.Assert:
		c.want(n.Subs[0], c.boolean)
	}
}

func (c *checker) assignment(n api.Node) {
	left, right := n.Subs[0], n.Subs[1]
	if t := c.variable(left); !t.takes(c.expression(right)) {
		throw(right, api.ErrType)
	}
}

// conditional goes through conditions and lists of acts, as they stand.
func (c *checker) conditional(l []api.Node) {
	for _, n := range l {
		if n.Kind == api.List {
			c.acts(n.Subs)
		} else {
			c.want(n, c.boolean)
		}
	}
}

func (c *checker) returning(n api.Node) {
	if len(n.Subs) == 0 {
		if c.result != nil {
			throw(n, api.ErrType)
		}
		return
	}
	t := c.expression(n.Subs[0])
	if c.result == nil {
		throw(n, api.ErrType)
	}
	if !c.result.takes(t) {
		throw(n.Subs[0], api.ErrType)
	}
}
