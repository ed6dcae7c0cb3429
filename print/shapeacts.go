package print

import "oberlin/api"

func (j *judge) act(n api.Node) bool {
	if n.Kind == api.If {
		return j.choice(n)
	}
	if !unnamed(n, 0) {
		return false
	}
	switch n.Kind {
	case api.Assign:
		return j.below(n, j.designator, j.expression)
	case api.Do:
		return j.first(n, j.designator, j.expression)
	case api.While:
		return j.below(n, j.expression, j.list(j.act))
	case api.Repeat:
		return j.below(n, j.list(j.act), j.expression)
	case api.Return:
		return len(n.Subs) <= 1 && j.each(n.Subs, j.expression)
	case api.New, api.Get:
		return j.below(n, j.designator)
	case api.Out, api.Assert:
		return j.below(n, j.expression)
	}
	return false
}

// choice: at least one condition and its acts, and acts more just if its number says so.
func (j *judge) choice(n api.Node) bool {
	if n.Name != "" || len(n.Subs) < 2 || len(n.Subs)%2 != n.Num {
		return false
	}
	acts := j.list(j.act)
	for i, x := range n.Subs {
		if i%2 == 0 && i+1 < len(n.Subs) {
			j.put(x, j.expression)
		} else {
			j.put(x, acts)
		}
	}
	return true
}

func (j *judge) expression(n api.Node) bool {
	switch n.Kind {
	case api.Number:
		return unnamed(n, api.MaxNumber) && j.below(n)
	case api.True, api.False, api.Nil:
		return unnamed(n, 0) && j.below(n)
	case api.Call:
		return unnamed(n, 0) && j.first(n, j.designator, j.expression)
	case api.Not, api.Neg:
		return unnamed(n, 0) && j.below(n, j.expression)
	case api.Is:
		return unnamed(n, 0) && j.below(n, j.expression, j.typeName)
	case api.Op:
		_, ok := j.operators[n.Name]
		return ok && within(n, 0) && j.below(n, j.expression, j.expression)
	}
	return j.designator(n)
}

func (j *judge) designator(n api.Node) bool {
	switch n.Kind {
	case api.Ref:
		return j.ref(n)
	case api.Dot:
		return j.named(n, 0) && j.below(n, j.designator)
	case api.Index:
		return unnamed(n, 0) && j.below(n, j.designator, j.expression)
	case api.Deref:
		return unnamed(n, 0) && j.below(n, j.designator)
	case api.Guard:
		return unnamed(n, 0) && j.below(n, j.designator, j.typeName)
	}
	return false
}
