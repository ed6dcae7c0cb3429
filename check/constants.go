package check

import "oberlin/api"

// value of what stands in a constant's declaration, with its type; of BOOLEAN 0 or 1.
func (c *checker) value(n api.Node) (*Type, int32) {
	switch n.Kind {
	case api.Number:
		return c.integer, int32(n.Num)
	case api.True, api.False:
		return c.boolean, truth(n.Kind == api.True)
	case api.Not:
		return c.boolean, 1 - c.valueOf(n.Subs[0], c.boolean)
	case api.Neg:
		return c.integer, -c.valueOf(n.Subs[0], c.integer)
	case api.Op:
		return c.operatorValue(n)
	}
	return c.namedValue(n)
}

// valueOf a part that must be of a type.
func (c *checker) valueOf(n api.Node, want *Type) int32 {
	t, v := c.value(n)
	needType(n, t, want)
	return v
}

// namedValue is the value of another constant, or of an imported module's.
func (c *checker) namedValue(n api.Node) (*Type, int32) {
	if n.Kind == api.Dot && n.Subs[0].Kind == api.Ref {
		c.meaning(n.Subs[0])
	}
	t := c.meaning(n)
	if t == nil || !t.valued {
		throw(n, api.ErrKind)
	}
	return t.Type, t.Value
}

func (c *checker) operatorValue(n api.Node) (*Type, int32) {
	left, right := n.Subs[0], n.Subs[1]
	a, x := c.value(left)
	b, y := c.value(right)
	if n.Name == "=" || n.Name == "#" {
		needType(right, b, a)
	} else {
		want := c.partsOf(n.Name)
		needType(left, a, want)
		needType(right, b, want)
	}
	if (n.Name == "DIV" || n.Name == "MOD") && y <= 0 {
		throw(n, api.ErrLimit)
	}
	return c.resultOf(n.Name), Operate(n.Name, x, y)
}

// Operate is what an operator makes of two numbers, or of two truths (0, 1); a divisor is above 0.
func Operate(sign string, x, y int32) int32 {
	switch sign {
	case "+":
		return x + y
	case "-":
		return x - y
	case "*":
		return x * y
	case "DIV":
		return quotient(x, y)
	case "MOD":
		return x - quotient(x, y)*y
	case "&":
		return x & y
	case "OR":
		return x | y
	}
	return truth(related(sign, x, y))
}

func related(sign string, x, y int32) bool {
	switch sign {
	case "=":
		return x == y
	case "#":
		return x != y
	case "<":
		return x < y
	case "<=":
		return x <= y
	case ">":
		return x > y
	}
	return x >= y
}

// quotient by what is above 0, rounded down.
func quotient(x, y int32) int32 {
	if x%y < 0 {
		return x/y - 1
	}
	return x / y
}

func truth(b bool) int32 {
	if b {
		return 1
	}
	return 0
}
