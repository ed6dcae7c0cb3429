package check

import "oberlin/api"

// form of a type.
type form int

const (
	anInteger form = iota
	aBoolean
	aNil
	anArray
	aRecord
	aPointer
)

// dataType is a type. Two of them are the same just if they lie at the same place.
type dataType struct {
	form     form
	home     *module // that declares it
	complete bool    // behind its declaration; ahead of that only pointers may point to it
	words    int
	of       *dataType // of an array its places' type, of a pointer what it points to, of a record what it extends (nil: nothing)
	fields   map[string]field
}

type field struct {
	of       *dataType
	exported bool
}

func (t *dataType) oneWord() bool { return t.form != anArray && t.form != aRecord }

// extends says whether a record is another one, or is made from what extends it.
func (t *dataType) extends(other *dataType) bool {
	for r := t; r != nil; r = r.of {
		if r == other {
			return true
		}
	}
	return false
}

// takes says whether a variable of the type can become a thing of the other one.
func (t *dataType) takes(other *dataType) bool {
	switch {
	case t == other:
		return true
	case t.form != aPointer:
		return false
	case other.form == aPointer:
		return other.of.extends(t.of)
	}
	return other.form == aNil
}

// findField is a record's field of a name, and the record, itself or one that it extends, that declares it; nil: there is none.
func (t *dataType) findField(name string) (f field, owner *dataType) {
	for r := t; r != nil; r = r.of {
		if f, ok := r.fields[name]; ok {
			return f, r
		}
	}
	return field{}, nil
}

// types: pointers may point to what comes later, so all names are there ahead of what they mean.
func (c *checker) types(l []api.Node) {
	for _, n := range l {
		c.declare(n, &thing{kind: aType, of: &dataType{form: formOf(n.Subs[0]), home: c.home}})
	}
	for _, n := range l {
		t := c.home.names[n.Name].of
		c.fill(t, n.Subs[0])
		if t.words > api.MaxSize {
			throw(n, api.ErrLimit)
		}
		t.complete = true
	}
}

func formOf(n api.Node) form {
	switch n.Kind {
	case api.Array:
		return anArray
	case api.Record:
		return aRecord
	}
	return aPointer
}

// fill makes a type what its declaration says.
func (c *checker) fill(t *dataType, n api.Node) {
	switch t.form {
	case anArray:
		if n.Num < 1 || n.Num > api.MaxLen {
			throw(n, api.ErrLimit)
		}
		t.of = c.typeName(n.Subs[0])
		t.words = n.Num * t.of.words
	case aRecord:
		c.fillRecord(t, n)
	case aPointer:
		t.of = c.record(n.Subs[0], c.namedType(n.Subs[0]))
		t.words = 1
	}
}

func (c *checker) fillRecord(t *dataType, n api.Node) {
	if base := n.Subs[0]; base.Kind != api.None {
		t.of = c.record(base, c.typeName(base))
		t.words = t.of.words
	}
	t.fields = map[string]field{}
	for _, x := range n.Subs[1:] {
		if _, owner := t.findField(x.Name); owner != nil {
			throw(x, api.ErrTwice)
		}
		f := field{of: c.typeName(x.Subs[0]), exported: x.Num == 1}
		t.fields[x.Name] = f
		t.words += f.of.words
	}
}

// record is the type of a type name, which must be a record.
func (c *checker) record(n api.Node, t *dataType) *dataType {
	if t.form != aRecord {
		throw(n, api.ErrType)
	}
	return t
}

// typeName is the type that a type name means, which must be declared ahead.
func (c *checker) typeName(n api.Node) *dataType {
	t := c.namedType(n)
	if !t.complete {
		throw(n, api.ErrName)
	}
	return t
}

// oneWordType is the type that a type name means, which must have one word.
func (c *checker) oneWordType(n api.Node) *dataType {
	t := c.typeName(n)
	if !t.oneWord() {
		throw(n, api.ErrType)
	}
	return t
}

// namedType is the type that a type name means, wherever it is declared.
func (c *checker) namedType(n api.Node) *dataType {
	if len(n.Subs) == 0 {
		if t := c.basic[n.Name]; t != nil {
			return t
		}
	}
	t := c.typeThing(n)
	if t == nil {
		throw(n, api.ErrName)
	}
	if t.kind != aType {
		throw(n, api.ErrKind)
	}
	return t.of
}

// typeThing is what a type name means, be it a type or not; nil: nothing.
func (c *checker) typeThing(n api.Node) *thing {
	if len(n.Subs) == 0 {
		return c.find(n.Name)
	}
	if m := c.imported(n.Subs[0].Name); m != nil {
		return m.shown(n.Name)
	}
	return nil
}
