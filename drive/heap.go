package drive

import (
	"slices"

	"oberlin/api"
	"oberlin/link"
)

// heap: where in memory records lie, one behind the other. Each has a word ahead that tells its number; a pointer is the address of that word.
type heap struct {
	first int // never 0: that is NIL
	size  int // words that may be used
	used  int // words, from the first on
}

// none is NIL.
const none word = 0

// end is where the next record will lie.
func (h *heap) end() int { return h.first + h.used }

// recordAt is what is to be known of the record at an address.
func (m *machine) recordAt(at word) link.Record { return m.Records[m.memory[at]] }

// pointed is a pointer that points to something.
func pointed(pointer word) word {
	if pointer == none {
		throw(api.TrapNil)
	}
	return pointer
}

// extends says whether a pointer points to what extends a record.
func (m *machine) extends(pointer word, record int) bool {
	return pointer != none && m.Extends(int(m.memory[pointer]), record)
}

// newRecord makes one on the heap; it answers a pointer to it.
func (m *machine) newRecord(record int) word {
	room := 1 + m.Records[record].Words
	if m.used+room > m.size {
		throw(api.TrapFull)
	}
	at := m.end()
	m.used += room
	clear(m.memory[at:m.end()])
	m.memory[at] = word(record)
	return word(at)
}

// collect moves the records that can still be come to together, from the heap's first word on; all behind them is free then.
func (m *machine) collect() {
	old := slices.Clone(m.memory[:m.end()])
	m.used = 0
	moved := map[word]word{none: none}
	move := func(pointer word) word {
		to, ok := moved[pointer]
		if !ok {
			to = m.newRecord(int(old[pointer]))
			copy(m.memory[to:m.end()], old[pointer:])
			moved[pointer] = to
		}
		return to
	}
	m.points(0, m.Points, move)
	for at := m.first; at < m.end(); {
		r := m.recordAt(word(at))
		m.points(at+1, r.Points, move)
		at += 1 + r.Words
	}
}

// points lets a function change each pointer of what lies at an address.
func (m *machine) points(first int, l []int, change func(word) word) {
	for _, point := range l {
		at := first + point
		x := change(m.memory[at])
		m.memory[at] = x
	}
}
