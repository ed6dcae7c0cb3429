package drive

import (
	"oberlin/api"
	"oberlin/check"
	"oberlin/gen"
)

// run does the instructions of acts, from the first on, up to their end; what their call has of its own lies at an address.
func (m *machine) run(at, own int) {
	for {
		i := m.Code[at]
		at++
		switch i.Op {
		case gen.Return:
			return
		case gen.Own:
			m.push(word(own + i.A))
		case gen.Jump:
			at = i.A
		case gen.Unless:
			if m.pop() == truth(false) {
				at = i.A
			}
		case gen.And, gen.Or:
			if m.told(truth(i.Op == gen.Or)) {
				at = i.A
			}
		default:
			m.do(i)
		}
	}
}

// told says whether the left part is the truth that tells all; then it stays on the stack.
func (m *machine) told(all word) bool {
	left := m.pop()
	if left == all {
		m.push(left)
	}
	return left == all
}

// do does an instruction behind which the next one comes: here those on addresses, and on what lies there.
func (m *machine) do(i gen.Instruction) {
	switch i.Op {
	case gen.Variable:
		m.push(word(i.A))
	case gen.Load:
		m.push(m.memory[m.pop()])
	case gen.Store:
		x := m.pop()
		m.memory[m.pop()] = x
	case gen.Copy:
		from, to := m.pop(), m.pop()
		copy(m.memory[to:], m.memory[from:][:i.A])
	case gen.Offset:
		m.push(m.pop() + word(i.A))
	case gen.Place:
		m.place(word(i.A), word(i.B))
	case gen.Point:
		m.push(pointed(m.pop()) + 1)
	case gen.Guard:
		m.guard(i.A)
	case gen.New:
		x := m.newRecord(i.A)
		m.memory[m.pop()] = x
	case gen.Get:
		x := m.read()
		m.memory[m.pop()] = x
	default:
		m.reckon(i)
	}
}

// reckon does an instruction on numbers and truths, or one that does something by itself.
func (m *machine) reckon(i gen.Instruction) {
	switch i.Op {
	case gen.Push:
		m.push(word(i.A))
	case gen.Is:
		m.push(truth(m.extends(m.pop(), i.A)))
	case gen.Not:
		m.push(truth(m.pop() == truth(false)))
	case gen.Negate:
		m.push(-m.pop())
	case gen.Tick:
		m.tick()
	case gen.Call:
		m.call(i.A)
	case gen.Lack:
		throw(api.TrapResult)
	case gen.Out:
		x := m.pop()
		m.out = append(m.out, int(x))
	case gen.Assert:
		if m.pop() == truth(false) {
			throw(api.TrapAssert)
		}
	default:
		m.operate(i.Op)
	}
}

// operate puts what an operator makes of two words for them.
func (m *machine) operate(op gen.Op) {
	right, left := m.pop(), m.pop()
	if (op == gen.Divide || op == gen.Modulo) && right <= 0 {
		throw(api.TrapDiv)
	}
	m.push(word(check.Operate(op.Sign(), int32(left), int32(right))))
}

// place puts the address of an array's place for that of the array and a number.
func (m *machine) place(places, words word) {
	number, first := m.pop(), m.pop()
	if number < 0 || number >= places {
		throw(api.TrapPlace)
	}
	m.push(first + number*words)
}

// guard leaves the address of a pointer on the stack, if what it points to extends a record.
func (m *machine) guard(record int) {
	at := m.pop()
	if !m.extends(pointed(m.memory[at]), record) {
		throw(api.TrapGuard)
	}
	m.push(at)
}

// read is the next number to be read.
func (m *machine) read() word {
	if len(m.unread) == 0 {
		return 0
	}
	x := m.unread[0]
	m.unread = m.unread[1:]
	return word(x)
}
