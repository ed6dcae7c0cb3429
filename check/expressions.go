package check

import "oberlin/api"

// needType throws, unless a node's type is the one that is wanted there.
func needType(n api.Node, t, want *Type) {
	if t != want {
		throw(n, api.ErrType)
	}
}

// want is for an expression that must be of a type.
func (c *checker) want(n api.Node, want *Type) { needType(n, c.expression(n), want) }

// expression is the type of one.
func (c *checker) expression(n api.Node) *Type {
	switch n.Kind {
	case api.Number:
		return c.integer
	case api.True, api.False:
		return c.boolean
	case api.Nil:
		return c.nothing
	case api.Not:
		c.want(n.Subs[0], c.boolean)
		return c.boolean
	case api.Neg:
		c.want(n.Subs[0], c.integer)
		return c.integer
	case api.Op:
		return c.operator(n)
	case api.Is:
		c.guarded(n)
		return c.boolean
	case api.Call:
		t := c.call(n)
		if t == nil {
			throw(n, api.ErrType)
		}
		return t
	}
	return c.designator(n)
}

func (c *checker) operator(n api.Node) *Type {
	left, right := n.Subs[0], n.Subs[1]
	a, b := c.expression(left), c.expression(right)
	if n.Name == "=" || n.Name == "#" {
		if !c.mayBeEqual(a, b) {
			throw(n, api.ErrType)
		}
	} else {
		want := c.partsOf(n.Name)
		needType(left, a, want)
		needType(right, b, want)
	}
	return c.resultOf(n.Name)
}

// mayBeEqual: things of these types may be equal.
func (c *checker) mayBeEqual(a, b *Type) bool {
	if !a.OneWord() || !b.OneWord() || a == c.nothing && b == c.nothing {
		return false
	}
	return a.takes(b) || b.takes(a)
}

// partsOf is the type of both parts of an operator; of = and # none is told by the sign.
func (c *checker) partsOf(sign string) *Type {
	if sign == "&" || sign == "OR" {
		return c.boolean
	}
	return c.integer
}

// resultOf is the type of what an operator makes.
func (c *checker) resultOf(sign string) *Type {
	switch sign {
	case "+", "-", "*", "DIV", "MOD":
		return c.integer
	}
	return c.boolean
}

// meaning is what a name means, or one behind an imported module's name; nil of a node that is neither.
func (c *checker) meaning(n api.Node) *Thing {
	t := c.Meaning(n)
	if t == nil && (n.Kind == api.Ref || c.moduleAhead(n) != nil) {
		throw(n, api.ErrName)
	}
	return t
}

// designator is the type of one.
func (c *checker) designator(n api.Node) *Type {
	if t := c.meaning(n); t != nil {
		if t.Kind != AVariable && t.Kind != AConstant {
			throw(n, api.ErrKind)
		}
		return t.Type
	}
	switch n.Kind {
	case api.Dot:
		return c.dot(n)
	case api.Index:
		return c.index(n)
	case api.Deref:
		return c.pointer(n).Of
	}
	return c.guarded(n)
}

// dot is the type of a field.
func (c *checker) dot(n api.Node) *Type {
	r := c.designator(n.Subs[0])
	if r.Form == APointer {
		r = r.Of
	}
	if r.Form != ARecord {
		throw(n, api.ErrType)
	}
	f, owner := r.FindField(n.Name)
	if owner == nil || !f.Exported && owner.Home != c.home {
		throw(n, api.ErrName)
	}
	return f.Type
}

// index is the type of an array's places.
func (c *checker) index(n api.Node) *Type {
	t, i := c.designator(n.Subs[0]), c.expression(n.Subs[1])
	if t.Form != AnArray {
		throw(n, api.ErrType)
	}
	needType(n.Subs[1], i, c.integer)
	return t.Of
}

// pointer is the type of a node's first part, which must be a pointer.
func (c *checker) pointer(n api.Node) *Type {
	t := c.expression(n.Subs[0])
	if t.Form != APointer {
		throw(n, api.ErrType)
	}
	return t
}

// guarded is the type that a pointer is held against.
func (c *checker) guarded(n api.Node) *Type {
	first := c.pointer(n)
	t := c.typeName(n.Subs[1])
	if t.Form != APointer || !t.Of.Extends(first.Of) {
		throw(n, api.ErrType)
	}
	return t
}

// variable is the type of a designator that may become another thing.
func (c *checker) variable(n api.Node) *Type {
	if !designates(n) {
		throw(n, api.ErrKind)
	}
	if t := c.meaning(n); t != nil && t.Kind != AVariable {
		throw(n, api.ErrKind)
	}
	t := c.designator(n)
	if n.Kind == api.Guard {
		throw(n, api.ErrKind)
	}
	return t
}

func designates(n api.Node) bool {
	switch n.Kind {
	case api.Ref, api.Dot, api.Index, api.Deref, api.Guard:
		return true
	}
	return false
}

// call is the type of its result; nil, if the procedure has none.
func (c *checker) call(n api.Node) *Type {
	p := c.called(n.Subs[0])
	arguments := n.Subs[1:]
	if len(arguments) != len(p.Parameters) {
		throw(n, api.ErrType)
	}
	for i, x := range arguments {
		if !c.fits(x, p.Parameters[i]) {
			throw(x, api.ErrType)
		}
	}
	return p.Result
}

// called is the procedure that a designator names.
func (c *checker) called(n api.Node) *Procedure {
	t := c.meaning(n)
	if t == nil {
		c.designator(n)
	}
	if t == nil || t.Kind != AProcedure {
		throw(n, api.ErrKind)
	}
	return t.Procedure
}

// fits says whether an argument is of a type that the parameter may be.
func (c *checker) fits(n api.Node, p *Thing) bool {
	if !p.ByVariable {
		return p.Type.takes(c.expression(n))
	}
	t := c.variable(n)
	return t == p.Type || t.Form == ARecord && t.Extends(p.Type)
}
