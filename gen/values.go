package gen

import (
	"oberlin/api"
	"oberlin/check"
)

// value makes the code of an expression of one word.
func (c *coder) value(n api.Node) {
	switch n.Kind {
	case api.Number:
		c.put(Push, n.Num)
	case api.True:
		c.put(Push, 1)
	case api.False, api.Nil:
		c.put(Push, 0)
	case api.Not:
		c.value(n.Subs[0])
		c.put(Not)
	case api.Neg:
		c.value(n.Subs[0])
		c.put(Negate)
	case api.Op:
		c.operation(n.Name, n.Subs[0], n.Subs[1])
	case api.Is:
		c.value(n.Subs[0])
		c.putPart(Is, c.pointedBy(n.Subs[1]))
	case api.Call:
		c.call(n)
	default:
		c.designated(n)
	}
}

func (c *coder) operation(sign string, left, right api.Node) {
	c.value(left)
	switch sign {
	case "&":
		c.unlessTold(And, right)
	case "OR":
		c.unlessTold(Or, right)
	default:
		c.value(right)
		c.put(operator(sign))
	}
}

// unlessTold makes the code of a right part that is worked out only if the left one doesn't tell all.
func (c *coder) unlessTold(op Op, right api.Node) {
	told := c.put(op)
	c.value(right)
	c.land(told)
}

// pointedBy is the record to which pointers of a type name's point.
func (c *coder) pointedBy(n api.Node) Part { return c.recordPart(c.TypeMeant(n).Of) }

// designated is the value of a constant, or what lies at a place.
func (c *coder) designated(n api.Node) {
	if t := c.Meaning(n); t != nil && t.Kind == check.AConstant {
		c.put(Push, int(t.Value))
		return
	}
	c.place(n)
	c.put(Load)
}

// place makes the code that tells the address of a designator's place; it answers its type.
func (c *coder) place(n api.Node) *check.Type {
	if t := c.Meaning(n); t != nil {
		c.named(t)
		return t.Type
	}
	t := c.place(n.Subs[0])
	switch n.Kind {
	case api.Dot:
		return c.field(t, n.Name)
	case api.Index:
		c.value(n.Subs[1])
		c.put(Place, t.Places, t.Of.Words)
		return t.Of
	case api.Deref:
		return c.pointed(t)
	}
	c.putPart(Guard, c.pointedBy(n.Subs[1]))
	return c.TypeMeant(n.Subs[1])
}

// named is the place of a variable.
func (c *coder) named(t *check.Thing) {
	switch {
	case t.ByVariable:
		c.put(Own, t.First)
		c.put(Load)
	case t.Home == nil:
		c.put(Own, t.First)
	default:
		c.put(Variable, c.modules[t.Home.Name], t.First)
	}
}

// field of the record at the place so far, or of the one to which the pointer there points.
func (c *coder) field(t *check.Type, name string) *check.Type {
	if t.Form == check.APointer {
		t = c.pointed(t)
	}
	f, _ := t.FindField(name)
	c.put(Offset, f.First)
	return f.Type
}

// pointed is what the pointer at the place so far points to.
func (c *coder) pointed(t *check.Type) *check.Type {
	c.put(Load)
	c.put(Point)
	return t.Of
}
