package gen

import (
	"maps"
	"slices"

	"oberlin/check"
	"oberlin/face"
	"oberlin/layout"
)

// maker of a module's object. What it names of others has numbers that hang on their faces alone.
type maker struct {
	Object
	modules    map[string]int           // 0: the module itself, then those that it leans on
	records    map[*check.Type]int      // numbers of records, each in its module
	procedures map[*check.Procedure]int // likewise
}

// objectOf a module.
func objectOf(m *check.Module) *Object {
	k := &maker{modules: map[string]int{}, records: map[*check.Type]int{}, procedures: map[*check.Procedure]int{}}
	k.Name, k.Key = m.Name, key(m)
	k.count(m)
	for _, x := range leanedOn(m) {
		k.Leans = append(k.Leans, Lean{x.Name, key(x)})
		k.count(x)
	}
	k.variables(m)
	for _, t := range records(m) {
		k.record(t)
	}
	for _, x := range procedures(m) {
		k.procedure(x)
	}
	k.Start = len(k.Code)
	k.body(&m.Body)
	k.put(Return)
	return &k.Object
}

// key of a module's face.
func key(m *check.Module) int { return face.Number(face.Text(m)) }

// leanedOn are the modules that a module imports, and those that these lean on. They come in the order of their names, since no face tells in which order they were imported.
func leanedOn(m *check.Module) []*check.Module {
	found := map[string]*check.Module{}
	var find func(*check.Module)
	find = func(m *check.Module) {
		for _, x := range m.Imports {
			found[x.Name] = x
			find(x)
		}
	}
	find(m)
	var l []*check.Module
	for _, name := range slices.Sorted(maps.Keys(found)) {
		l = append(l, found[name])
	}
	return l
}

// count gives a module, and what may be named of it, the numbers by which code names them.
func (k *maker) count(m *check.Module) {
	k.modules[m.Name] = len(k.modules)
	for i, t := range records(m) {
		k.records[t] = i
	}
	for i, x := range procedures(m) {
		k.procedures[x.Procedure] = i
	}
}

// records that a module declares.
func records(m *check.Module) (l []*check.Type) {
	for _, x := range m.Declared {
		if x.Kind == check.AType && x.Type.Form == check.ARecord {
			l = append(l, x.Type)
		}
	}
	return l
}

// procedures of a module: those that it hides come last, so that their number doesn't matter to those that it shows.
func procedures(m *check.Module) (l []*check.Thing) {
	for _, exported := range []bool{true, false} {
		for _, x := range m.Declared {
			if x.Kind == check.AProcedure && x.Exported == exported {
				l = append(l, x)
			}
		}
	}
	return l
}

func (k *maker) variables(m *check.Module) {
	k.Words = m.Words
	for _, x := range m.Declared {
		if x.Kind != check.AVariable {
			continue
		}
		for _, point := range layout.Points(x.Type) {
			k.Points = append(k.Points, x.First+point)
		}
	}
}

func (k *maker) record(t *check.Type) {
	r := Record{Words: t.Words, Points: layout.Points(t), Base: Part{Number: None}}
	if t.Of != nil {
		r.Base = k.recordPart(t.Of)
	}
	k.Records = append(k.Records, r)
}

// recordPart is the part of its module that a record is.
func (k *maker) recordPart(t *check.Type) Part {
	return Part{k.modules[t.Home.Name], k.records[t]}
}

// procedure makes one with its code.
func (k *maker) procedure(x *check.Thing) {
	p := Procedure{Parameters: len(x.Procedure.Parameters), Words: x.Procedure.Words, Start: len(k.Code)}
	end := Return
	if x.Exported {
		p.Name = x.Name
	}
	if x.Procedure.Result != nil {
		p.Results = 1
		end = Lack
	}
	k.Procedures = append(k.Procedures, p)
	k.body(&x.Procedure.Body)
	k.put(end)
}

// body makes the code of acts.
func (k *maker) body(b *check.Body) {
	c := coder{maker: k, Scope: b.Scope}
	c.acts(b.Acts)
}

// put puts an instruction behind the code so far; it answers where that stands.
func (k *maker) put(op Op, numbers ...int) (at int) {
	i := Instruction{Op: op}
	if len(numbers) > 0 {
		i.A = numbers[0]
	}
	if len(numbers) > 1 {
		i.B = numbers[1]
	}
	k.Code = append(k.Code, i)
	return len(k.Code) - 1
}

// putPart puts an instruction that names a part of a module.
func (k *maker) putPart(op Op, p Part) { k.put(op, p.Module, p.Number) }

// land makes an instruction go on at what comes next.
func (k *maker) land(at int) { k.Code[at].A = len(k.Code) }
