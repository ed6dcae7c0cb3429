package check

import "oberlin/api"

// kind of what a name means.
type kind int

const (
	aModule kind = iota
	aConstant
	aType
	aVariable
	aProcedure
)

// thing that a name means.
type thing struct {
	kind      kind
	exported  bool
	of        *dataType // the type that it is, or has
	value     int32
	valued    bool       // a constant has a value only behind its declaration
	procedure *procedure // just of a procedure
	module    *module    // just of a module
}

// procedure: what a call must know of it.
type procedure struct {
	parameters []parameter
	result     *dataType // nil: none
}

type parameter struct {
	of         *dataType
	byVariable bool // VAR
}

// module: what its names mean.
type module struct {
	names map[string]*thing
}

// shown is what the module exports by a name; nil: nothing.
func (m *module) shown(name string) *thing {
	if t := m.names[name]; t != nil && t.exported {
		return t
	}
	return nil
}

// world has what no module declares, and the modules of the texts so far. All texts of a call share one: types are the same just if they are kept at the same place.
type world struct {
	integer, boolean, nothing *dataType // nothing: the type of NIL
	basic                     map[string]*dataType
	modules                   map[string]*module
}

func newWorld() *world {
	w := &world{
		integer: &dataType{form: anInteger, words: 1, complete: true},
		boolean: &dataType{form: aBoolean, words: 1, complete: true},
		nothing: &dataType{form: aNil},
		modules: map[string]*module{},
	}
	w.basic = map[string]*dataType{"INTEGER": w.integer, "BOOLEAN": w.boolean}
	return w
}

// scope is where names are looked up: a procedure's hide those of its module.
type scope struct {
	*world
	home  *module
	inner map[string]*thing // names of the procedure so far; nil outside of procedures
}

// find is what a name means here; nil: nothing.
func (s *scope) find(name string) *thing {
	if t := s.inner[name]; t != nil {
		return t
	}
	return s.home.names[name]
}

// imported is the module that a name means here; nil, if it means none.
func (s *scope) imported(name string) *module {
	if t := s.find(name); t != nil {
		return t.module
	}
	return nil
}

// declare gives the module a further name.
func (s *scope) declare(n api.Node, t *thing) {
	t.exported = n.Num == 1
	s.put(s.home.names, n, t)
}

// declareInner gives the procedure a further name.
func (s *scope) declareInner(n api.Node, of *dataType) *thing {
	t := &thing{kind: aVariable, of: of}
	s.put(s.inner, n, t)
	return t
}

func (s *scope) put(names map[string]*thing, n api.Node, t *thing) {
	if names[n.Name] != nil || s.basic[n.Name] != nil {
		throw(n, api.ErrTwice)
	}
	names[n.Name] = t
}
