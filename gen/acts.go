package gen

import (
	"oberlin/api"
	"oberlin/check"
)

// coder makes the code of acts, whose names are looked up in a scope.
type coder struct {
	*maker
	check.Scope
}

func (c *coder) acts(l []api.Node) {
	for _, n := range l {
		c.act(n)
	}
}

func (c *coder) act(n api.Node) {
	switch n.Kind {
	case api.Assign:
		c.assign(n.Subs[0], n.Subs[1])
	case api.Do:
		c.call(n)
	case api.If:
		c.choose(n.Subs)
	case api.While:
		c.while(n.Subs[0], n.Subs[1].Subs)
	case api.Repeat:
		c.repeat(n.Subs[0].Subs, n.Subs[1])
	case api.Return:
		for _, x := range n.Subs {
			c.value(x)
		}
		c.put(Return)
	case api.New:
		t := c.place(n.Subs[0])
		c.putPart(New, c.recordPart(t.Of))
	case api.Out:
		c.value(n.Subs[0])
		c.put(Out)
	case api.Get:
		c.place(n.Subs[0])
		c.put(Get)
	case api.Assert:
		c.value(n.Subs[0])
		c.put(Assert)
	}
}

func (c *coder) assign(left, right api.Node) {
	t := c.place(left)
	if t.OneWord() {
		c.value(right)
		c.put(Store)
		return
	}
	c.place(right)
	c.put(Copy, t.Words)
}

// choose: conditions and lists in turn, perhaps a list more.
func (c *coder) choose(l []api.Node) {
	var ends []int
	for ; len(l) > 1; l = l[2:] {
		c.value(l[0])
		next := c.put(Unless)
		c.acts(l[1].Subs)
		end := c.put(Jump)
		ends = append(ends, end)
		c.land(next)
	}
	for _, otherwise := range l {
		c.acts(otherwise.Subs)
	}
	for _, end := range ends {
		c.land(end)
	}
}

func (c *coder) while(condition api.Node, l []api.Node) {
	start := len(c.Code)
	c.value(condition)
	end := c.put(Unless)
	c.put(Tick)
	c.acts(l)
	c.put(Jump, start)
	c.land(end)
}

func (c *coder) repeat(l []api.Node, condition api.Node) {
	start := c.put(Tick)
	c.acts(l)
	c.value(condition)
	c.put(Unless, start)
}

// call of what a node names, its arguments from the left.
func (c *coder) call(n api.Node) {
	t := c.Meaning(n.Subs[0])
	for i, x := range n.Subs[1:] {
		if t.Procedure.Parameters[i].ByVariable {
			c.place(x)
		} else {
			c.value(x)
		}
	}
	c.putPart(Call, Part{c.modules[t.Home.Name], c.procedures[t.Procedure]})
}
