package link

import (
	"oberlin/api"
	"oberlin/gen"
)

// joiner of objects to an image.
type joiner struct {
	Image
	keys    map[string]int // of the faces of the modules so far
	numbers map[string]int // of these modules
}

func newJoiner() *joiner {
	return &joiner{Image: Image{commands: map[command]int{}}, keys: map[string]int{}, numbers: map[string]int{}}
}

// add joins an object to those ahead.
func (j *joiner) add(object []byte) (err error) {
	o, err := gen.Read(object)
	if err != nil {
		return err
	}
	if err := j.fits(o); err != nil {
		return err
	}
	defer func() {
		if recover() != nil {
			err = api.ErrForm
		}
	}()
	j.join(o)
	return nil
}

// fits says whether an object can stand behind those ahead.
func (j *joiner) fits(o *gen.Object) error {
	if _, ok := j.keys[o.Name]; ok {
		return api.ErrTwice
	}
	for _, x := range o.Leans {
		if _, ok := j.keys[x.Name]; !ok {
			return api.ErrName
		}
	}
	for _, x := range o.Leans {
		if j.keys[x.Name] != x.Key {
			return api.ErrKey
		}
	}
	return nil
}

// join puts what an object has behind what there is; it throws, where it names what isn't there.
func (j *joiner) join(o *gen.Object) {
	m := Module{
		Name:       o.Name,
		Words:      Span{j.Words, o.Words},
		Records:    Span{len(j.Records), len(o.Records)},
		Procedures: Span{len(j.Procedures), len(o.Procedures)},
		Code:       Span{len(j.Code), len(o.Code)},
	}
	m.Start = m.Code.at(o.Start)
	v := view{m}
	for _, x := range o.Leans {
		v = append(v, j.Modules[j.numbers[x.Name]])
	}
	j.variables(o)
	for _, x := range o.Records {
		j.record(v, x)
	}
	for _, x := range o.Procedures {
		j.procedure(m, x)
	}
	for _, x := range o.Code {
		j.Code = append(j.Code, v.joined(x))
	}
	j.keys[o.Name], j.numbers[o.Name] = o.Key, len(j.Modules)
	j.Modules = append(j.Modules, m)
}

func (j *joiner) variables(o *gen.Object) {
	for _, point := range o.Points {
		j.Points = append(j.Points, j.Words+point)
	}
	j.Words += o.Words
}

// record: what it extends must be ahead, else there would be no end of going up from it.
func (j *joiner) record(v view, x gen.Record) {
	r := Record{x.Words, x.Points, gen.None}
	if x.Base.Number != gen.None {
		r.Base = v.record(x.Base)
	}
	expect(r.Base < len(j.Records))
	j.Records = append(j.Records, r)
}

func (j *joiner) procedure(m Module, x gen.Procedure) {
	if x.Name != "" && x.Parameters == 0 && x.Results == 0 {
		j.commands[command{m.Name, x.Name}] = len(j.Procedures)
	}
	j.Procedures = append(j.Procedures, Procedure{x.Parameters, x.Words, m.Code.at(x.Start)})
}

// expect throws, unless an object is as it should be.
func expect(right bool) {
	if !right {
		panic(api.ErrForm)
	}
}

// at is the number in the image of what has a number among the module's.
func (s Span) at(number int) int {
	expect(number >= 0 && number < s.Count)
	return s.First + number
}

// view: the modules that an object names: itself, then those that it leans on.
type view []Module

// word is the number of the first word of a variable; one without words may lie behind all others.
func (v view) word(p gen.Part) int {
	l := v[p.Module].Words
	l.Count++
	return l.at(p.Number)
}

func (v view) record(p gen.Part) int { return v[p.Module].Records.at(p.Number) }

func (v view) procedure(p gen.Part) int { return v[p.Module].Procedures.at(p.Number) }

// joined is an instruction with the numbers of the image.
func (v view) joined(i gen.Instruction) gen.Instruction {
	expect(i.Op >= 0 && i.Op < gen.Ops)
	switch i.Op {
	case gen.Variable:
		return gen.Instruction{Op: i.Op, A: v.word(i.Part())}
	case gen.Guard, gen.Is, gen.New:
		return gen.Instruction{Op: i.Op, A: v.record(i.Part())}
	case gen.Call:
		return gen.Instruction{Op: i.Op, A: v.procedure(i.Part())}
	case gen.And, gen.Or, gen.Jump, gen.Unless:
		return gen.Instruction{Op: i.Op, A: v[0].Code.at(i.A)}
	}
	return i
}
