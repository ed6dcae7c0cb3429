package check

import "oberlin/api"

// needType throws, unless a node's type is the one that is wanted there.
func needType(n api.Node, t, want *dataType) {
	if t != want {
		throw(n, api.ErrType)
	}
}

// want is for an expression that must be of a type.
func (c *checker) want(n api.Node, want *dataType) { needType(n, c.expression(n), want) }

// expression is the type of one.
func (c *checker) expression(n api.Node) *dataType {
	switch n.Kind {
	case api.Number:
		return c.integer
	case api.True, api.False:
		return c.boolean
	case api.Nil:
		return c.nothing
	case api.Not:
		c.want(n.Subs[0], c.boolean)
		return c.boolean
	case api.Neg:
		c.want(n.Subs[0], c.integer)
		return c.integer
	case api.Op:
		return c.operator(n)
	case api.Is:
		c.guarded(n)
		return c.boolean
	case api.Call:
		t := c.call(n)
		if t == nil {
			throw(n, api.ErrType)
		}
		return t
	}
	return c.designator(n)
}

func (c *checker) operator(n api.Node) *dataType {
	left, right := n.Subs[0], n.Subs[1]
	a, b := c.expression(left), c.expression(right)
	if n.Name == "=" || n.Name == "#" {
		if !c.mayBeEqual(a, b) {
			throw(n, api.ErrType)
		}
	} else {
		want := c.partsOf(n.Name)
		needType(left, a, want)
		needType(right, b, want)
	}
	return c.resultOf(n.Name)
}

// mayBeEqual: things of these types may be equal.
func (c *checker) mayBeEqual(a, b *dataType) bool {
	if !a.oneWord() || !b.oneWord() || a == c.nothing && b == c.nothing {
		return false
	}
	return a.takes(b) || b.takes(a)
}

// partsOf is the type of both parts of an operator; of = and # none is told by the sign.
func (c *checker) partsOf(sign string) *dataType {
	if sign == "&" || sign == "OR" {
		return c.boolean
	}
	return c.integer
}

// resultOf is the type of what an operator makes.
func (c *checker) resultOf(sign string) *dataType {
	switch sign {
	case "+", "-", "*", "DIV", "MOD":
		return c.integer
	}
	return c.boolean
}

// meaning is what a name means, or one behind an imported module's name; nil of a node that is neither.
func (c *checker) meaning(n api.Node) *thing {
	var t *thing
	if n.Kind == api.Ref {
		t = c.find(n.Name)
	} else if m := c.moduleAhead(n); m != nil {
		t = m.shown(n.Name)
	} else {
		return nil
	}
	if t == nil {
		throw(n, api.ErrName)
	}
	return t
}

// moduleAhead is the imported module that stands ahead of the point; nil, if none does.
func (c *checker) moduleAhead(n api.Node) *module {
	if n.Kind == api.Dot && n.Subs[0].Kind == api.Ref {
		return c.imported(n.Subs[0].Name)
	}
	return nil
}

// designator is the type of one.
func (c *checker) designator(n api.Node) *dataType {
	if t := c.meaning(n); t != nil {
		if t.kind != aVariable && t.kind != aConstant {
			throw(n, api.ErrKind)
		}
		return t.of
	}
	switch n.Kind {
	case api.Dot:
		return c.dot(n)
	case api.Index:
		return c.index(n)
	case api.Deref:
		return c.pointer(n).of
	}
	return c.guarded(n)
}

// dot is the type of a field.
func (c *checker) dot(n api.Node) *dataType {
	r := c.designator(n.Subs[0])
	if r.form == aPointer {
		r = r.of
	}
	if r.form != aRecord {
		throw(n, api.ErrType)
	}
	f, owner := r.findField(n.Name)
	if owner == nil || !f.exported && owner.home != c.home {
		throw(n, api.ErrName)
	}
	return f.of
}

// index is the type of an array's places.
func (c *checker) index(n api.Node) *dataType {
	t, i := c.designator(n.Subs[0]), c.expression(n.Subs[1])
	if t.form != anArray {
		throw(n, api.ErrType)
	}
	needType(n.Subs[1], i, c.integer)
	return t.of
}

// pointer is the type of a node's first part, which must be a pointer.
func (c *checker) pointer(n api.Node) *dataType {
	t := c.expression(n.Subs[0])
	if t.form != aPointer {
		throw(n, api.ErrType)
	}
	return t
}

// guarded is the type that a pointer is held against.
func (c *checker) guarded(n api.Node) *dataType {
	first := c.pointer(n)
	t := c.typeName(n.Subs[1])
	if t.form != aPointer || !t.of.extends(first.of) {
		throw(n, api.ErrType)
	}
	return t
}

// variable is the type of a designator that may become another thing.
func (c *checker) variable(n api.Node) *dataType {
	if !designates(n) {
		throw(n, api.ErrKind)
	}
	if t := c.meaning(n); t != nil && t.kind != aVariable {
		throw(n, api.ErrKind)
	}
	t := c.designator(n)
	if n.Kind == api.Guard {
		throw(n, api.ErrKind)
	}
	return t
}

func designates(n api.Node) bool {
	switch n.Kind {
	case api.Ref, api.Dot, api.Index, api.Deref, api.Guard:
		return true
	}
	return false
}

// call is the type of its result; nil, if the procedure has none.
func (c *checker) call(n api.Node) *dataType {
	p := c.called(n.Subs[0])
	arguments := n.Subs[1:]
	if len(arguments) != len(p.parameters) {
		throw(n, api.ErrType)
	}
	for i, x := range arguments {
		if !c.fits(x, p.parameters[i]) {
			throw(x, api.ErrType)
		}
	}
	return p.result
}

// called is the procedure that a designator names.
func (c *checker) called(n api.Node) *procedure {
	t := c.meaning(n)
	if t == nil {
		c.designator(n)
	}
	if t == nil || t.kind != aProcedure {
		throw(n, api.ErrKind)
	}
	return t.procedure
}

// fits says whether an argument is of a type that the parameter may be.
func (c *checker) fits(n api.Node, p parameter) bool {
	if !p.byVariable {
		return p.of.takes(c.expression(n))
	}
	t := c.variable(n)
	return t == p.of || t.form == aRecord && t.extends(p.of)
}
