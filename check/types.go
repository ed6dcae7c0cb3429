package check

import "oberlin/api"

// Form of a type.
type Form int

// Forms of types.
const (
	AnInteger Form = iota
	ABoolean
	ANil
	AnArray
	ARecord
	APointer
)

// Type of things. Two of them are the same just if they lie at the same place.
type Type struct {
	Form     Form
	Name     string
	Home     *Module // that declares it; nil of those that none does
	Words    int
	Places   int     // of an array
	Of       *Type   // of an array its places' type, of a pointer what it points to, of a record what it extends (nil: nothing)
	Fields   []Field // a record's own, as they are declared
	complete bool    // behind its declaration; ahead of that only pointers may point to it
}

// Field of a record.
type Field struct {
	Name     string
	Exported bool
	Type     *Type
	First    int // its first word
}

// OneWord says whether all things of the type have one word: numbers, truths, pointers.
func (t *Type) OneWord() bool { return t.Form != AnArray && t.Form != ARecord }

// Extends says whether a record is another one, or is made from what extends it.
func (t *Type) Extends(other *Type) bool {
	for r := t; r != nil; r = r.Of {
		if r == other {
			return true
		}
	}
	return false
}

// takes says whether a variable of the type can become a thing of the other one.
func (t *Type) takes(other *Type) bool {
	switch {
	case t == other:
		return true
	case t.Form != APointer:
		return false
	case other.Form == APointer:
		return other.Of.Extends(t.Of)
	}
	return other.Form == ANil
}

// FindField is a record's field of a name, and the record, itself or one that it extends, that declares it; nil: there is none.
func (t *Type) FindField(name string) (f Field, owner *Type) {
	for r := t; r != nil; r = r.Of {
		for _, f := range r.Fields {
			if f.Name == name {
				return f, r
			}
		}
	}
	return Field{}, nil
}

// types: pointers may point to what comes later, so all names are there ahead of what they mean.
func (c *checker) types(l []api.Node) {
	for _, n := range l {
		c.declare(n, &Thing{Kind: AType, Type: &Type{Form: formOf(n.Subs[0]), Name: n.Name, Home: c.home}})
	}
	for _, n := range l {
		t := c.home.TypeNamed(n.Name)
		c.fill(t, n.Subs[0])
		if t.Words > api.MaxSize {
			throw(n, api.ErrLimit)
		}
		t.complete = true
	}
}

func formOf(n api.Node) Form {
	switch n.Kind {
	case api.Array:
		return AnArray
	case api.Record:
		return ARecord
	}
	return APointer
}

// fill makes a type what its declaration says.
func (c *checker) fill(t *Type, n api.Node) {
	switch t.Form {
	case AnArray:
		if n.Num < 1 || n.Num > api.MaxLen {
			throw(n, api.ErrLimit)
		}
		t.Of = c.typeName(n.Subs[0])
		t.Places = n.Num
		t.Words = t.Places * t.Of.Words
	case ARecord:
		c.fillRecord(t, n)
	case APointer:
		t.Of = c.record(n.Subs[0], c.namedType(n.Subs[0]))
		t.Words = 1
	}
}

func (c *checker) fillRecord(t *Type, n api.Node) {
	if base := n.Subs[0]; base.Kind != api.None {
		t.Of = c.record(base, c.typeName(base))
		t.Words = t.Of.Words
	}
	for _, x := range n.Subs[1:] {
		if _, owner := t.FindField(x.Name); owner != nil {
			throw(x, api.ErrTwice)
		}
		f := Field{Name: x.Name, Exported: x.Num == 1, Type: c.typeName(x.Subs[0]), First: t.Words}
		t.Fields = append(t.Fields, f)
		t.Words += f.Type.Words
	}
}

// record is the type of a type name, which must be a record.
func (c *checker) record(n api.Node, t *Type) *Type {
	if t.Form != ARecord {
		throw(n, api.ErrType)
	}
	return t
}

// typeName is the type that a type name means, which must be declared ahead.
func (c *checker) typeName(n api.Node) *Type {
	t := c.namedType(n)
	if !t.complete {
		throw(n, api.ErrName)
	}
	return t
}

// oneWordType is the type that a type name means, which must have one word.
func (c *checker) oneWordType(n api.Node) *Type {
	t := c.typeName(n)
	if !t.OneWord() {
		throw(n, api.ErrType)
	}
	return t
}

// namedType is the type that a type name means, wherever it is declared.
func (c *checker) namedType(n api.Node) *Type {
	t := c.typeThing(n)
	if t == nil {
		throw(n, api.ErrName)
	}
	if t.Kind != AType {
		throw(n, api.ErrKind)
	}
	return t.Type
}
