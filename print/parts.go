package print

import (
	"strconv"

	"oberlin/api"
)

func (w *writer) typeItself(n api.Node) {
	switch n.Kind {
	case api.Array:
		w.write("ARRAY ", strconv.Itoa(n.Num), " OF ")
		w.typeName(n.Subs[0])
	case api.Pointer:
		w.write("POINTER TO ")
		w.typeName(n.Subs[0])
	case api.Record:
		w.record(n)
	}
}

func (w *writer) record(n api.Node) {
	w.write("RECORD ")
	if base := n.Subs[0]; base.Kind != api.None {
		w.write("(")
		w.typeName(base)
		w.write(") ")
	}
	for _, x := range n.Subs[1:] {
		w.typed(x)
		w.write("; ")
	}
	w.write("END")
}

func (w *writer) acts(l []api.Node) { w.lines(l, ";", "", w.act) }

func (w *writer) act(n api.Node) {
	switch n.Kind {
	case api.Assign:
		w.expression(n.Subs[0])
		w.write(" := ")
		w.expression(n.Subs[1])
	case api.Do:
		w.expression(n.Subs[0])
		if len(n.Subs) > 1 {
			w.arguments(n.Subs[1:])
		}
	case api.If:
		w.choice(n)
	case api.While:
		w.branch("WHILE ", n.Subs, " DO")
		w.end()
	case api.Repeat:
		w.write("REPEAT\n")
		w.acts(n.Subs[0].Subs)
		w.begin()
		w.write("UNTIL ")
		w.expression(n.Subs[1])
	case api.Return:
		w.write("RETURN")
		for _, x := range n.Subs {
			w.write(" ")
			w.expression(x)
		}
	default:
		w.write(w.words[n.Kind].text)
		w.arguments(n.Subs)
	}
}

func (w *writer) choice(n api.Node) {
	w.branch("IF ", n.Subs, " THEN")
	rest := n.Subs[2:]
	for ; len(rest) > 1; rest = rest[2:] {
		w.begin()
		w.branch("ELSIF ", rest, " THEN")
	}
	for _, otherwise := range rest {
		w.line("ELSE")
		w.acts(otherwise.Subs)
	}
	w.end()
}

// branch writes a condition between two words, and its acts.
func (w *writer) branch(ahead string, l []api.Node, behind string) {
	w.write(ahead)
	w.expression(l[0])
	w.write(behind, "\n")
	w.acts(l[1].Subs)
}

func (w *writer) end() {
	w.begin()
	w.write("END")
}

func (w *writer) arguments(l []api.Node) {
	w.write("(")
	w.several(l, ", ", w.expression)
	w.write(")")
}

func (w *writer) rankOf(n api.Node) rank {
	switch n.Kind {
	case api.Op:
		return w.operators[n.Name]
	case api.Is:
		return relation
	case api.Neg:
		return sum
	}
	return factor
}

// operand writes a part of an expression: in brackets, if it is of a lower rank than this.
func (w *writer) operand(n api.Node, least rank) {
	if w.rankOf(n) >= least {
		w.expression(n)
		return
	}
	w.write("(")
	w.expression(n)
	w.write(")")
}

func (w *writer) expression(n api.Node) {
	switch n.Kind {
	case api.Number:
		w.write(strconv.Itoa(n.Num))
	case api.True, api.False, api.Nil:
		w.write(w.words[n.Kind].text)
	case api.Call:
		w.expression(n.Subs[0])
		w.arguments(n.Subs[1:])
	case api.Not:
		w.write("~")
		w.operand(n.Subs[0], factor)
	case api.Neg:
		w.write("-")
		w.operand(n.Subs[0], product)
	case api.Is:
		w.operand(n.Subs[0], sum)
		w.write(" IS ")
		w.typeName(n.Subs[1])
	case api.Op:
		w.operation(n)
	default:
		w.designator(n)
	}
}

// operation: chains go from the left, so an operator's rank may stand on its left, but for relations, which make no chains.
func (w *writer) operation(n api.Node) {
	r := w.operators[n.Name]
	w.operand(n.Subs[0], max(r, sum))
	w.write(" ", n.Name, " ")
	w.operand(n.Subs[1], r+1)
}

func (w *writer) designator(n api.Node) {
	if n.Kind == api.Ref {
		w.write(n.Name)
		return
	}
	w.designator(n.Subs[0])
	switch n.Kind {
	case api.Dot:
		w.write(".", n.Name)
	case api.Index:
		w.write("[")
		w.expression(n.Subs[1])
		w.write("]")
	case api.Deref:
		w.write("^")
	case api.Guard:
		w.write("{")
		w.typeName(n.Subs[1])
		w.write("}")
	}
}
