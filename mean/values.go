package mean

import (
	"oberlin/api"
	"oberlin/check"
)

// value of an expression of one word.
func (f *frame) value(n api.Node) word {
	switch n.Kind {
	case api.Number:
		return word{number: int32(n.Num)}
	case api.True:
		return truth(true)
	case api.False, api.Nil:
		return word{}
	case api.Not:
		return truth(!f.value(n.Subs[0]).isTrue())
	case api.Neg:
		return word{number: -f.value(n.Subs[0]).number}
	case api.Op:
		return f.operation(n)
	case api.Is:
		return truth(extends(f.value(n.Subs[0]).to, f.TypeMeant(n.Subs[1])))
	case api.Call:
		return f.invoke(n)
	}
	return f.place(n).words[0]
}

func (f *frame) operation(n api.Node) word {
	left := f.value(n.Subs[0])
	if n.Name == "&" && !left.isTrue() || n.Name == "OR" && left.isTrue() {
		return left
	}
	right := f.value(n.Subs[1])
	switch n.Name {
	case "=":
		return truth(left == right)
	case "#":
		return truth(left != right)
	case "DIV", "MOD":
		if right.number <= 0 {
			throw(api.TrapDiv)
		}
	}
	return word{number: check.Operate(n.Name, left.number, right.number)}
}

// extends says whether a pointer of a type may point to the record; to NIL none of them has to.
func extends(r *record, pointer *check.Type) bool { return r != nil && r.of.Extends(pointer.Of) }

// place that a designator tells; a constant has one of its own each time.
func (f *frame) place(n api.Node) place {
	if t := f.Meaning(n); t != nil {
		return f.named(t)
	}
	p := f.place(n.Subs[0])
	switch n.Kind {
	case api.Dot:
		if p.of.Form == check.APointer {
			p = p.pointed()
		}
		x, _ := p.of.FindField(n.Name)
		return p.part(x.First, x.Type)
	case api.Index:
		return p.element(f.value(n.Subs[1]).number)
	case api.Deref:
		return p.pointed()
	}
	return p.guarded(f.TypeMeant(n.Subs[1]))
}

// named is the place that a name means.
func (f *frame) named(t *check.Thing) place {
	switch {
	case t.Kind == check.AConstant:
		return place{[]word{{number: t.Value}}, t.Type}
	case t.ByVariable:
		return f.places[t.Name]
	case t.Home == nil:
		return place{f.words, nil}.part(t.First, t.Type)
	}
	return place{f.variables[t.Home.Name], nil}.part(t.First, t.Type)
}

// pointed is what a pointer points to, as its type tells it.
func (p place) pointed() place {
	r := p.words[0].to
	if r == nil {
		throw(api.TrapNil)
	}
	return place{r.words, r.of}.part(0, p.of.Of)
}

// element is a place of an array.
func (p place) element(number int32) place {
	if number < 0 || int(number) >= p.of.Places {
		throw(api.TrapPlace)
	}
	return p.part(int(number)*p.of.Of.Words, p.of.Of)
}

// guarded is a pointer, as one of a type whose records its own extends.
func (p place) guarded(t *check.Type) place {
	r := p.words[0].to
	if r == nil {
		throw(api.TrapNil)
	}
	if !extends(r, t) {
		throw(api.TrapGuard)
	}
	return place{p.words, t}
}
