package mean

import (
	"oberlin/api"
	"oberlin/check"
)

// frame: what a call has of its own, and where the names of its acts are looked up. The acts of a module have one, too, without variables.
type frame struct {
	*machine
	*check.Body
	words  []word           // of its parameters and variables
	places map[string]place // of its VAR parameters, by their names
	result word
}

func (m *machine) newFrame(p *check.Procedure) *frame {
	return &frame{machine: m, Body: &p.Body, words: make([]word, p.Body.Words), places: map[string]place{}}
}

// acts goes through acts; it says whether they ended by RETURN.
func (f *frame) acts(l []api.Node) (returned bool) {
	for _, n := range l {
		if f.act(n) {
			return true
		}
	}
	return false
}

func (f *frame) act(n api.Node) (returned bool) {
	switch n.Kind {
	case api.Assign:
		f.assign(n.Subs[0], n.Subs[1])
	case api.Do:
		f.invoke(n)
	case api.If:
		return f.choose(n)
	case api.While:
		return f.while(n.Subs[0], n.Subs[1].Subs)
	case api.Repeat:
		return f.repeat(n.Subs[0].Subs, n.Subs[1])
	case api.Return:
		for _, x := range n.Subs {
			f.result = f.value(x)
		}
		return true
	case api.New:
		p := f.place(n.Subs[0])
		p.words[0] = word{to: f.newRecord(p.of.Of)}
	case api.Out:
		f.write(f.value(n.Subs[0]).number)
	case api.Get:
		p := f.place(n.Subs[0])
		p.words[0] = word{number: f.read()}
	case api.Assert:
		if !f.value(n.Subs[0]).isTrue() {
			throw(api.TrapAssert)
		}
	}
	return false
}

// assign: which place is on the left is told ahead of what is on the right.
func (f *frame) assign(left, right api.Node) {
	p := f.place(left)
	if p.of.OneWord() {
		p.words[0] = f.value(right)
		return
	}
	copy(p.words, f.place(right).words)
}

func (f *frame) choose(n api.Node) (returned bool) {
	l := n.Subs
	for ; len(l) > 1; l = l[2:] {
		if f.value(l[0]).isTrue() {
			return f.acts(l[1].Subs)
		}
	}
	for _, otherwise := range l {
		return f.acts(otherwise.Subs)
	}
	return false
}

func (f *frame) while(condition api.Node, l []api.Node) (returned bool) {
	for f.value(condition).isTrue() {
		f.tick()
		if f.acts(l) {
			return true
		}
	}
	return false
}

func (f *frame) repeat(l []api.Node, condition api.Node) (returned bool) {
	for {
		f.tick()
		if f.acts(l) {
			return true
		}
		if f.value(condition).isTrue() {
			return false
		}
	}
}

// invoke calls what a node names, with its arguments.
func (f *frame) invoke(n api.Node) word {
	p := f.Meaning(n.Subs[0]).Procedure
	called := f.newFrame(p)
	for i, x := range n.Subs[1:] {
		if t := p.Parameters[i]; t.ByVariable {
			called.places[t.Name] = f.place(x).part(0, t.Type)
		} else {
			called.words[t.First] = f.value(x)
		}
	}
	return f.call(p, called)
}
