package check

import "oberlin/api"

// Kind of what a name means.
type Kind int

// Kinds of what names mean.
const (
	AModule Kind = iota
	AConstant
	AType
	AVariable
	AProcedure
)

// Thing that a name means.
type Thing struct {
	Kind      Kind
	Name      string
	Exported  bool
	Type      *Type      // that it is, or has
	Value     int32      // of a constant; of BOOLEAN 0 or 1
	First     int        // of a module's variable: its first word
	Procedure *Procedure // just of a procedure
	valued    bool       // a constant has a value only behind its declaration
	module    *Module    // just of a module
}

// Procedure: what a call must know of it.
type Procedure struct {
	Parameters []Parameter
	Result     *Type // nil: none
}

// Parameter of a procedure.
type Parameter struct {
	Type       *Type
	ByVariable bool // VAR
}

// Module: what its names mean.
type Module struct {
	Name     string
	Declared []*Thing // in the order of the declarations
	names    map[string]*Thing
}

// TypeNamed is the type that the module declares by a name; nil: it declares none.
func (m *Module) TypeNamed(name string) *Type {
	if t := m.names[name]; t != nil && t.Kind == AType {
		return t.Type
	}
	return nil
}

// shown is what the module exports by a name; nil: nothing.
func (m *Module) shown(name string) *Thing {
	if t := m.names[name]; t != nil && t.Exported {
		return t
	}
	return nil
}

// world has what no module declares, and the modules of the texts so far. All texts of a call share one: types are the same just if they are kept at the same place.
type world struct {
	integer, boolean, nothing *Type // nothing: the type of NIL
	basic                     map[string]*Type
	modules                   map[string]*Module
}

func newWorld() *world {
	w := &world{
		integer: &Type{Form: AnInteger, Name: "INTEGER", Words: 1, complete: true},
		boolean: &Type{Form: ABoolean, Name: "BOOLEAN", Words: 1, complete: true},
		nothing: &Type{Form: ANil},
		modules: map[string]*Module{},
	}
	w.basic = map[string]*Type{w.integer.Name: w.integer, w.boolean.Name: w.boolean}
	return w
}

// scope is where names are looked up: a procedure's hide those of its module.
type scope struct {
	*world
	home  *Module
	inner map[string]*Thing // names of the procedure so far; nil outside of procedures
}

// find is what a name means here; nil: nothing.
func (s *scope) find(name string) *Thing {
	if t := s.inner[name]; t != nil {
		return t
	}
	return s.home.names[name]
}

// imported is the module that a name means here; nil, if it means none.
func (s *scope) imported(name string) *Module {
	if t := s.find(name); t != nil {
		return t.module
	}
	return nil
}

// declare gives the module a further name.
func (s *scope) declare(n api.Node, t *Thing) {
	t.Name, t.Exported = n.Name, n.Num == 1
	s.put(s.home.names, n, t)
	s.home.Declared = append(s.home.Declared, t)
}

// declareInner gives the procedure a further name.
func (s *scope) declareInner(n api.Node, of *Type) *Thing {
	t := &Thing{Kind: AVariable, Name: n.Name, Type: of}
	s.put(s.inner, n, t)
	return t
}

func (s *scope) put(names map[string]*Thing, n api.Node, t *Thing) {
	if names[n.Name] != nil || s.basic[n.Name] != nil {
		throw(n, api.ErrTwice)
	}
	names[n.Name] = t
}
