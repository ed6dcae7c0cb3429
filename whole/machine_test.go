package whole

import (
	"testing"

	"oberlin/api"
	"oberlin/check"
	"oberlin/gen"
	"oberlin/link"
)

// machine does what the instructions of an image tell, in the simplest way: what is made in its memory is never taken from there.
type machine struct {
	*link.Image
	memory       []int // the variables of the modules; behind them calls' own words, and records with their numbers ahead
	stack        []int
	ticks, calls int
	unread, out  []int
	heap, used   int
}

// trap that ends a command.
type trap int

// perform loads objects, and tells the events of their acts and of a script.
func perform(t *testing.T, objects [][]byte, heap int, script []api.Deed) (l []api.Event) {
	t.Helper()
	image, err := link.Load(objects)
	if err != nil {
		t.Fatal(err)
	}
	m := &machine{Image: image, memory: make([]int, image.Words+1), heap: heap}
	for _, x := range image.Modules {
		l = append(l, m.event(nil, func() { m.run(x.Start, 0) }))
	}
	for _, d := range script {
		l = append(l, m.event(d.Input, func() { m.deed(d) }))
	}
	return l
}

func (m *machine) event(input []int, command func()) (e api.Event) {
	m.ticks, m.calls, m.unread, m.out, m.stack = 0, 0, input, nil, nil
	defer func() {
		if x := recover(); x != nil {
			e.Trap = int(x.(trap))
		}
		e.Out, e.Used = m.out, m.used
	}()
	command()
	if len(m.stack) > 0 {
		panic("something is left on the stack")
	}
	return e
}

func (m *machine) deed(d api.Deed) {
	if d.Module == "" && d.Proc == "" {
		m.collect()
		return
	}
	number := m.Command(d.Module, d.Proc)
	if number == gen.None {
		panic(trap(api.TrapNone))
	}
	m.call(number)
}

func (m *machine) collect() {
	m.used = 0
	found := map[int]bool{}
	var find func(first int, points []int)
	find = func(first int, points []int) {
		for _, point := range points {
			to := m.memory[first+point]
			if to == 0 || found[to] {
				continue
			}
			found[to] = true
			r := m.Records[m.memory[to]]
			m.used += 1 + r.Words
			find(to+1, r.Points)
		}
	}
	find(0, m.Points)
}

func (m *machine) tick() {
	if m.ticks == api.MaxTicks {
		panic(trap(api.TrapTicks))
	}
	m.ticks++
}

func (m *machine) call(number int) {
	p := m.Procedures[number]
	m.tick()
	if m.calls == api.MaxCalls {
		panic(trap(api.TrapCalls))
	}
	m.calls++
	own := m.room(p.Words)
	arguments := len(m.stack) - p.Parameters
	copy(m.memory[own:], m.stack[arguments:])
	m.stack = m.stack[:arguments]
	m.run(p.Start, own)
	m.calls--
}

// room is the address of so many new words.
func (m *machine) room(words int) int {
	first := len(m.memory)
	m.memory = append(m.memory, make([]int, words)...)
	return first
}

func (m *machine) push(x int) { m.stack = append(m.stack, int(int32(x))) }

func (m *machine) pop() int {
	last := len(m.stack) - 1
	x := m.stack[last]
	m.stack = m.stack[:last]
	return x
}

func (m *machine) truth(b bool) { m.push(b2i(b)) }

// run does instructions up to the end of the call.
func (m *machine) run(at, own int) {
	for m.Code[at].Op != gen.Return {
		i := m.Code[at]
		at++
		switch i.Op {
		case gen.Own:
			m.push(own + i.A)
		case gen.Jump:
			at = i.A
		case gen.Unless:
			if m.pop() == 0 {
				at = i.A
			}
		case gen.And, gen.Or:
			left := m.pop()
			if (left == 1) == (i.Op == gen.Or) {
				m.push(left)
				at = i.A
			}
		default:
			m.do(i)
		}
	}
}

func (m *machine) do(i gen.Instruction) {
	switch i.Op {
	case gen.Push, gen.Variable:
		m.push(i.A)
	case gen.Load:
		m.push(m.memory[m.pop()])
	case gen.Store:
		x := m.pop()
		m.memory[m.pop()] = x
	case gen.Copy:
		from := m.pop()
		copy(m.memory[m.pop():], m.memory[from:from+i.A])
	case gen.Offset:
		m.push(m.pop() + i.A)
	case gen.Place:
		m.place(i.A, i.B)
	case gen.Point:
		m.push(m.pointed(m.pop()) + 1)
	case gen.Guard:
		address := m.pop()
		if !m.Extends(m.memory[m.pointed(m.memory[address])], i.A) {
			panic(trap(api.TrapGuard))
		}
		m.push(address)
	case gen.Is:
		to := m.pop()
		m.truth(to != 0 && m.Extends(m.memory[to], i.A))
	case gen.New:
		m.create(i.A)
	case gen.Not:
		m.push(1 - m.pop())
	case gen.Negate:
		m.push(-m.pop())
	default:
		m.more(i)
	}
}

func (m *machine) more(i gen.Instruction) {
	switch i.Op {
	case gen.Tick:
		m.tick()
	case gen.Call:
		m.call(i.A)
	case gen.Lack:
		panic(trap(api.TrapResult))
	case gen.Out:
		m.out = append(m.out, m.pop())
	case gen.Get:
		x := 0
		if len(m.unread) > 0 {
			x, m.unread = m.unread[0], m.unread[1:]
		}
		m.memory[m.pop()] = x
	case gen.Assert:
		if m.pop() == 0 {
			panic(trap(api.TrapAssert))
		}
	default:
		m.operate(i.Op)
	}
}

func (m *machine) operate(op gen.Op) {
	right := m.pop()
	if (op == gen.Divide || op == gen.Modulo) && right <= 0 {
		panic(trap(api.TrapDiv))
	}
	m.push(int(check.Operate(op.Sign(), int32(m.pop()), int32(right))))
}

func (m *machine) place(places, words int) {
	number := m.pop()
	if number < 0 || number >= places {
		panic(trap(api.TrapPlace))
	}
	m.push(m.pop() + number*words)
}

// pointed is where the record lies that a pointer points to.
func (m *machine) pointed(to int) int {
	if to == 0 {
		panic(trap(api.TrapNil))
	}
	return to
}

func (m *machine) create(number int) {
	words := 1 + m.Records[number].Words
	if m.used+words > m.heap {
		panic(trap(api.TrapFull))
	}
	m.used += words
	to := m.room(words)
	m.memory[to] = number
	m.memory[m.pop()] = to
}
