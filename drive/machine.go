package drive

import (
	"oberlin/api"
	"oberlin/gen"
	"oberlin/link"
)

// word: a number, a truth (0, 1), a pointer, or the address of a word in memory.
type word int32

func truth(b bool) word {
	if b {
		return 1
	}
	return 0
}

// trap that ends a command.
type trap int

func throw(t trap) { panic(t) }

// turn: what each command has anew.
type turn struct {
	ticks, calls int
	unread, out  []int
	stack        []word
}

// machine does what the instructions of an image tell.
type machine struct {
	*link.Image
	turn
	heap
	memory []word // the variables of all modules, the heap; behind these what the calls that go on have of their own
	kept   int    // words of memory that stay from command to command
}

func newMachine(image *link.Image, size int) *machine {
	m := &machine{Image: image}
	m.heap = heap{first: image.Words + 1, size: size}
	m.kept = m.first + size
	m.memory = make([]word, m.kept)
	return m
}

// perform is what comes of a command that reads these numbers.
func (m *machine) perform(input []int, command func()) (e api.Event) {
	m.turn = turn{unread: input}
	m.memory = m.memory[:m.kept]
	defer func() {
		thrown := recover()
		t, ok := thrown.(trap)
		if thrown != nil && !ok {
			panic(thrown)
		}
		e = api.Event{Trap: int(t), Out: m.out, Used: m.used}
	}()
	command()
	return e
}

// body is the command that goes through a module's acts.
func (m *machine) body(x link.Module) func() {
	return func() { m.run(x.Start, m.kept) }
}

// deed is the command of a deed.
func (m *machine) deed(d api.Deed) func() {
	if d.Module == "" && d.Proc == "" {
		return m.collect
	}
	number := m.Command(d.Module, d.Proc)
	return func() {
		if number == gen.None {
			throw(api.TrapNone)
		}
		m.call(number)
	}
}

// tick uses one of a command's ticks.
func (m *machine) tick() {
	if m.ticks == api.MaxTicks {
		throw(api.TrapTicks)
	}
	m.ticks++
}

// call goes through a procedure's acts; its arguments are on the stack, and then its result.
func (m *machine) call(number int) {
	m.tick()
	if m.calls == api.MaxCalls {
		throw(api.TrapCalls)
	}
	p := m.Procedures[number]
	own := len(m.memory)
	m.memory = append(m.memory, make([]word, p.Words)...)
	copy(m.memory[own:], m.popAll(p.Parameters))
	m.calls++
	m.run(p.Start, own)
	m.calls--
	m.memory = m.memory[:own]
}

func (m *machine) push(x word) { m.stack = append(m.stack, x) }

func (m *machine) pop() word { return m.popAll(1)[0] }

// popAll are so many words from the top of the stack; what is pushed next lies where they lay.
func (m *machine) popAll(count int) []word {
	left := len(m.stack) - count
	l := m.stack[left:]
	m.stack = m.stack[:left]
	return l
}
