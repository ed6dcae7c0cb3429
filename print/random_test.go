package print

import (
	"math/rand"
	"testing"

	"oberlin/api"
	"oberlin/parse"
)

// maker of trees by the rules of texts alone.
type maker struct {
	*rand.Rand
	left int // how many nodes more it may be, about
}

func (m *maker) pick(l ...string) string { return l[m.Intn(len(l))] }

func (m *maker) name() string { return m.pick("a", "b2", "INTEGER", "Abcdefghijk9", "end", "x") }

func (m *maker) list(most int, kind int, f func() api.Node) api.Node {
	n := api.Node{Kind: kind}
	for range m.Intn(most + 1) {
		n.Subs = append(n.Subs, f())
	}
	return n
}

func (m *maker) node(kind, num int, subs ...api.Node) api.Node {
	return api.Node{Kind: kind, Name: m.name(), Num: num, At: m.Intn(99), Subs: subs}
}

func (m *maker) bare(kind int, subs ...api.Node) api.Node {
	return api.Node{Kind: kind, At: m.Intn(99), Subs: subs}
}

func (m *maker) typeName() api.Node {
	if m.Intn(3) == 0 {
		return m.node(api.TypeName, 0, m.node(api.Ref, 0))
	}
	return m.node(api.TypeName, 0)
}

func (m *maker) typeNameOrNone() api.Node {
	if m.Intn(2) == 0 {
		return m.bare(api.None)
	}
	return m.typeName()
}

func (m *maker) number() int { return []int{0, 1, 10, api.MaxNumber}[m.Intn(4)] }

func (m *maker) typeItself() api.Node {
	switch m.Intn(3) {
	case 0:
		n := m.bare(api.Array, m.typeName())
		n.Num = m.number()
		return n
	case 1:
		return m.bare(api.Pointer, m.typeName())
	}
	n := m.list(3, api.Record, func() api.Node { return m.node(api.Field, m.Intn(2), m.typeName()) })
	n.Subs = append([]api.Node{m.typeNameOrNone()}, n.Subs...)
	return n
}

func (m *maker) designator() api.Node {
	if m.left--; m.left < 0 {
		return m.node(api.Ref, 0)
	}
	switch m.Intn(8) {
	case 0:
		return m.node(api.Dot, 0, m.designator())
	case 1:
		return m.bare(api.Index, m.designator(), m.expression())
	case 2:
		return m.bare(api.Deref, m.designator())
	case 3:
		return m.bare(api.Guard, m.designator(), m.typeName())
	}
	return m.node(api.Ref, 0)
}

func (m *maker) called(kind int) api.Node {
	d := m.designator()
	n := m.list(2, kind, m.expression)
	n.Subs = append([]api.Node{d}, n.Subs...)
	return n
}

func (m *maker) expression() api.Node {
	if m.left--; m.left < 0 {
		return m.bare([]int{api.True, api.False, api.Nil}[m.Intn(3)])
	}
	switch m.Intn(10) {
	case 0:
		n := m.bare(api.Number)
		n.Num = m.number()
		return n
	case 1:
		return m.called(api.Call)
	case 2:
		return m.bare(api.Not, m.expression())
	case 3:
		return m.bare(api.Neg, m.expression())
	case 4:
		return m.bare(api.Is, m.expression(), m.typeName())
	case 5:
		return m.designator()
	}
	n := m.bare(api.Op, m.expression(), m.expression())
	n.Name = m.pick("=", "#", "<", "<=", ">", ">=", "+", "-", "OR", "*", "DIV", "MOD", "&")
	return n
}

func (m *maker) acts() api.Node { return m.list(3, api.List, m.act) }

func (m *maker) act() api.Node {
	if m.left--; m.left < 0 {
		return m.bare(api.Return)
	}
	switch m.Intn(10) {
	case 0:
		return m.bare(api.Assign, m.designator(), m.expression())
	case 1:
		return m.called(api.Do)
	case 2:
		return m.choice()
	case 3:
		return m.bare(api.While, m.expression(), m.acts())
	case 4:
		return m.bare(api.Repeat, m.acts(), m.expression())
	case 5:
		return m.list(1, api.Return, m.expression)
	case 6:
		return m.bare(api.New, m.designator())
	case 7:
		return m.bare(api.Get, m.designator())
	case 8:
		return m.bare(api.Out, m.expression())
	}
	return m.bare(api.Assert, m.expression())
}

func (m *maker) choice() api.Node {
	n := m.bare(api.If, m.expression(), m.acts())
	for m.Intn(2) == 0 {
		n.Subs = append(n.Subs, m.expression(), m.acts())
	}
	if n.Num = m.Intn(2); n.Num == 1 {
		n.Subs = append(n.Subs, m.acts())
	}
	return n
}

func (m *maker) procedure() api.Node {
	return m.node(api.Proc, m.Intn(2),
		m.list(3, api.List, func() api.Node { return m.node(api.Param, m.Intn(2), m.typeName()) }),
		m.typeNameOrNone(),
		m.list(2, api.List, func() api.Node { return m.node(api.Var, 0, m.typeName()) }),
		m.acts())
}

func (m *maker) module() api.Node {
	return m.node(api.Module, 0,
		m.list(3, api.List, func() api.Node { return m.node(api.Import, 0) }),
		m.list(3, api.List, func() api.Node { return m.node(api.Const, m.Intn(2), m.expression()) }),
		m.list(3, api.List, func() api.Node { return m.node(api.Named, m.Intn(2), m.typeItself()) }),
		m.list(3, api.List, func() api.Node { return m.node(api.Var, m.Intn(2), m.typeName()) }),
		m.list(2, api.List, m.procedure),
		m.acts())
}

// C1 to C4: what is written of any tree that the rules have is read as that tree, but where it is deeper than texts may be.
func TestWhatIsWrittenIsRead(t *testing.T) {
	m := &maker{Rand: rand.New(rand.NewSource(3))}
	deep, read := 0, 0
	for range 4000 {
		m.left = 1 + m.Intn(60)
		n := m.module()
		s := written(t, n)
		if _, err := parse.Parse(s); err != nil {
			e, _, _ := api.Tell(err)
			if deep++; e != api.ErrLimit {
				t.Fatalf("%s: %v", s, err)
			}
			continue
		}
		read++
		readAgain(t, n, s)
		if again := written(t, tree(t, s)); again != s {
			t.Fatalf("%s\nis written again as\n%s", s, again)
		}
	}
	if read < 3500 {
		t.Errorf("%d were read, %d too deep", read, deep)
	}
}
