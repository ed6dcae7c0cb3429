package mean

import (
	"oberlin/api"
	"oberlin/check"
)

// word of a variable: a number, or whereto a pointer points; of truths 0 or 1. What is not told by its type is 0, or nil.
type word struct {
	number int32
	to     *record
}

func truth(b bool) word {
	if b {
		return word{number: 1}
	}
	return word{}
}

func (w word) isTrue() bool { return w.number == 1 }

// record on the heap.
type record struct {
	of    *check.Type // as it was made
	words []word
	found int // the last collection that came to it
}

// room is how many words of the heap it uses.
func (r *record) room() int { return 1 + len(r.words) }

// place: the words of a variable, or of a part of one, and its type where it stands.
type place struct {
	words []word
	of    *check.Type
}

// part of a place that begins at one of its words.
func (p place) part(first int, of *check.Type) place {
	return place{p.words[first : first+of.Words], of}
}

// trap that ends a command.
type trap int

func throw(t trap) { panic(t) }

// turn: what each command has anew.
type turn struct {
	ticks, calls int
	unread       []int
	out          []int
}

// machine: what modules have from command to command.
type machine struct {
	turn
	modules     []*check.Module
	variables   map[string][]word // of the modules, by their names
	heap, used  int
	collections int
}

func newMachine(modules []*check.Module, heap int) *machine {
	m := &machine{modules: modules, variables: map[string][]word{}, heap: heap}
	for _, x := range modules {
		m.variables[x.Name] = make([]word, x.Words)
	}
	return m
}

// perform is what comes of a command that reads these numbers.
func (m *machine) perform(input []int, command func()) (e api.Event) {
	m.turn = turn{unread: input}
	defer func() {
		t, _ := recover().(trap)
		e = api.Event{Trap: int(t), Out: m.out, Used: m.used}
	}()
	command()
	return e
}

// body is the command that goes through a module's acts.
func (m *machine) body(x *check.Module) func() {
	return func() {
		f := frame{machine: m, Body: &x.Body}
		f.acts(x.Acts)
	}
}

// deed is the command of a deed.
func (m *machine) deed(d api.Deed) func() {
	if d.Module == "" && d.Proc == "" {
		return m.collect
	}
	p := m.procedure(d.Module, d.Proc)
	return func() {
		if p == nil {
			throw(api.TrapNone)
		}
		m.call(p, m.newFrame(p))
	}
}

// procedure that a deed may call; nil: there is none.
func (m *machine) procedure(module, name string) *check.Procedure {
	for _, x := range m.modules {
		if x.Name != module {
			continue
		}
		if t := x.Shown(name); t != nil && t.Kind == check.AProcedure && len(t.Procedure.Parameters) == 0 && t.Procedure.Result == nil {
			return t.Procedure
		}
	}
	return nil
}

// tick uses one of a command's ticks.
func (m *machine) tick() {
	if m.ticks == api.MaxTicks {
		throw(api.TrapTicks)
	}
	m.ticks++
}

// call goes through a procedure's acts, with its arguments in a frame, and answers its result.
func (m *machine) call(p *check.Procedure, f *frame) word {
	m.tick()
	if m.calls == api.MaxCalls {
		throw(api.TrapCalls)
	}
	m.calls++
	returned := f.acts(p.Acts)
	m.calls--
	if p.Result != nil && !returned {
		throw(api.TrapResult)
	}
	return f.result
}

// newRecord makes one on the heap.
func (m *machine) newRecord(of *check.Type) *record {
	r := &record{of: of, words: make([]word, of.Words)}
	if m.used+r.room() > m.heap {
		throw(api.TrapFull)
	}
	m.used += r.room()
	return r
}

// read is the next number to be read.
func (m *machine) read() int32 {
	if len(m.unread) == 0 {
		return 0
	}
	x := m.unread[0]
	m.unread = m.unread[1:]
	return int32(x)
}

// write puts a number out. It is handed in ready, since what works it out may put numbers out itself: the list is to be read behind that.
func (m *machine) write(number int32) {
	m.out = append(m.out, int(number))
}

// collect finds the records that can still be come to: just these use room then.
func (m *machine) collect() {
	m.collections++
	m.used = 0
	var find func([]word)
	find = func(l []word) {
		for _, w := range l {
			if r := w.to; r != nil && r.found != m.collections {
				r.found = m.collections
				m.used += r.room()
				find(r.words)
			}
		}
	}
	for _, x := range m.modules {
		find(m.variables[x.Name])
	}
}
