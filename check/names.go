package check

import "oberlin/api"

// Kind of what a name means.
type Kind int

// Kinds of what names mean.
const (
	AModule Kind = iota
	AConstant
	AType
	AVariable
	AProcedure
)

// Thing that a name means.
type Thing struct {
	Kind       Kind
	Name       string
	Exported   bool
	Home       *Module    // that declares it; nil of what a procedure does
	Type       *Type      // that it is, or has
	Value      int32      // of a constant; of BOOLEAN 0 or 1
	First      int        // of a variable: its first word, among those of its module, or of its procedure
	ByVariable bool       // it is a VAR parameter
	Procedure  *Procedure // just of a procedure
	valued     bool       // a constant has a value only behind its declaration
	module     *Module    // just of a module
}

// Body: acts, and where their names are looked up.
type Body struct {
	Scope
	Acts  []api.Node
	Words int // of its variables; of a procedure with its parameters, one word each
}

// Procedure: what a call must know of it, and what it does.
type Procedure struct {
	Body
	Parameters []*Thing
	Result     *Type // nil: none
}

// Module: what its names mean, and what it does.
type Module struct {
	Body
	Name     string
	Imports  []*Module // those that its text names, in order
	Declared []*Thing  // in the order of the declarations
	names    map[string]*Thing
}

// TypeNamed is the type that the module declares by a name; nil: it declares none.
func (m *Module) TypeNamed(name string) *Type {
	if t := m.names[name]; t != nil && t.Kind == AType {
		return t.Type
	}
	return nil
}

// Shown is what the module exports by a name; nil: nothing.
func (m *Module) Shown(name string) *Thing {
	if t := m.names[name]; t != nil && t.Exported {
		return t
	}
	return nil
}

// world has what no module declares, and the modules of the texts so far. All texts of a call share one: types are the same just if they are kept at the same place.
type world struct {
	integer, boolean, nothing *Type // nothing: the type of NIL
	basic                     map[string]*Thing
	modules                   map[string]*Module
}

func newWorld() *world {
	w := &world{
		integer: &Type{Form: AnInteger, Name: "INTEGER", Words: 1, complete: true},
		boolean: &Type{Form: ABoolean, Name: "BOOLEAN", Words: 1, complete: true},
		nothing: &Type{Form: ANil},
		modules: map[string]*Module{},
	}
	w.basic = map[string]*Thing{
		w.integer.Name: {Kind: AType, Type: w.integer},
		w.boolean.Name: {Kind: AType, Type: w.boolean},
	}
	return w
}

// Scope is where names are looked up: a procedure's hide those of its module.
type Scope struct {
	*world
	home  *Module
	inner map[string]*Thing // names of the procedure so far; nil outside of procedures
}

// Meaning is what a name means here, or one behind an imported module's name; nil: nothing, or the node is neither.
func (s *Scope) Meaning(n api.Node) *Thing {
	if n.Kind == api.Ref {
		return s.find(n.Name)
	}
	if m := s.moduleAhead(n); m != nil {
		return m.Shown(n.Name)
	}
	return nil
}

// TypeMeant is the type that a type name means here; nil: none.
func (s *Scope) TypeMeant(n api.Node) *Type {
	if t := s.typeThing(n); t != nil && t.Kind == AType {
		return t.Type
	}
	return nil
}

// typeThing is what a type name means, be it a type or not; nil: nothing.
func (s *Scope) typeThing(n api.Node) *Thing {
	if len(n.Subs) > 0 {
		if m := s.imported(n.Subs[0].Name); m != nil {
			return m.Shown(n.Name)
		}
		return nil
	}
	if t := s.basic[n.Name]; t != nil {
		return t
	}
	return s.find(n.Name)
}

// moduleAhead is the imported module that stands ahead of the point; nil, if none does.
func (s *Scope) moduleAhead(n api.Node) *Module {
	if n.Kind == api.Dot && n.Subs[0].Kind == api.Ref {
		return s.imported(n.Subs[0].Name)
	}
	return nil
}

// find is what a name means here; nil: nothing.
func (s *Scope) find(name string) *Thing {
	if t := s.inner[name]; t != nil {
		return t
	}
	return s.home.names[name]
}

// imported is the module that a name means here; nil, if it means none.
func (s *Scope) imported(name string) *Module {
	if t := s.find(name); t != nil {
		return t.module
	}
	return nil
}

// declare gives the module a further name.
func (s *Scope) declare(n api.Node, t *Thing) {
	t.Name, t.Exported, t.Home = n.Name, n.Num == 1, s.home
	s.put(s.home.names, n, t)
	s.home.Declared = append(s.home.Declared, t)
}

// declareInner gives the procedure a further name.
func (s *Scope) declareInner(n api.Node, t *Thing) {
	t.Kind, t.Name = AVariable, n.Name
	s.put(s.inner, n, t)
}

func (s *Scope) put(names map[string]*Thing, n api.Node, t *Thing) {
	if names[n.Name] != nil || s.basic[n.Name] != nil {
		throw(n, api.ErrTwice)
	}
	names[n.Name] = t
}
