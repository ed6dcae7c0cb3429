package print

import (
	"strings"

	"oberlin/api"
)

// writer of trees that have the shape of some text's tree. Its methods write what they are named for; what goes over several lines begins and ends within a line, and who calls puts the blanks ahead of it and the newline behind it.
type writer struct {
	strings.Builder
	level     int
	operators map[string]rank
	words     map[int]word
}

func newWriter() *writer { return &writer{operators: operators(), words: words()} }

// write writes texts right behind one another.
func (w *writer) write(texts ...string) {
	for _, s := range texts {
		w.WriteString(s)
	}
}

// begin writes the blanks ahead of a line.
func (w *writer) begin() {
	for range w.level {
		w.WriteString("  ")
	}
}

// line writes a whole line.
func (w *writer) line(texts ...string) {
	w.begin()
	w.write(texts...)
	w.WriteByte('\n')
}

// several writes nodes with a text between them.
func (w *writer) several(l []api.Node, between string, each func(api.Node)) {
	for i, n := range l {
		if i > 0 {
			w.WriteString(between)
		}
		each(n)
	}
}

// lines writes nodes a level within, each beginning a line, with a text behind each but the last, and one behind that.
func (w *writer) lines(l []api.Node, between, behind string, each func(api.Node)) {
	if len(l) == 0 {
		return
	}
	w.level++
	w.several(l, between+"\n", func(n api.Node) {
		w.begin()
		each(n)
	})
	w.write(behind, "\n")
	w.level--
}

// section writes declarations below their kept word, if there are some.
func (w *writer) section(kept string, l []api.Node, each func(api.Node)) {
	if len(l) > 0 {
		w.line(kept)
		w.lines(l, ";", ";", each)
	}
}

func (w *writer) module(n api.Node) {
	w.line("MODULE ", n.Name, ";")
	w.imports(n.Subs[0].Subs)
	w.section("CONST", n.Subs[1].Subs, func(x api.Node) {
		w.marked(x)
		w.write(" = ")
		w.expression(x.Subs[0])
	})
	w.section("TYPE", n.Subs[2].Subs, func(x api.Node) {
		w.marked(x)
		w.write(" = ")
		w.typeItself(x.Subs[0])
	})
	w.section("VAR", n.Subs[3].Subs, w.typed)
	for _, x := range n.Subs[4].Subs {
		w.procedure(x)
	}
	if acts := n.Subs[5].Subs; len(acts) > 0 {
		w.line("BEGIN")
		w.acts(acts)
	}
	w.line("END ", n.Name, ".")
}

func (w *writer) imports(l []api.Node) {
	if len(l) == 0 {
		return
	}
	w.write("IMPORT ")
	w.several(l, ", ", func(x api.Node) { w.write(x.Name) })
	w.write(";\n")
}

func (w *writer) procedure(n api.Node) {
	parameters, result := n.Subs[0].Subs, n.Subs[1]
	w.write("PROCEDURE ")
	w.marked(n)
	if len(parameters) > 0 || result.Kind != api.None {
		w.write("(")
		w.several(parameters, "; ", w.parameter)
		w.write(")")
	}
	if result.Kind != api.None {
		w.write(": ")
		w.typeName(result)
	}
	w.write(";\n")
	w.section("VAR", n.Subs[2].Subs, w.typed)
	w.line("BEGIN")
	w.acts(n.Subs[3].Subs)
	w.line("END ", n.Name, ";")
}

// marked writes a name, with a star behind it, if it is exported.
func (w *writer) marked(n api.Node) {
	w.write(n.Name)
	if n.Num == 1 {
		w.write("*")
	}
}

// typed writes a name that may be exported, and its type's.
func (w *writer) typed(n api.Node) {
	w.marked(n)
	w.write(": ")
	w.typeName(n.Subs[0])
}

func (w *writer) parameter(n api.Node) {
	if n.Num == 1 {
		w.write("VAR ")
	}
	w.write(n.Name, ": ")
	w.typeName(n.Subs[0])
}

func (w *writer) typeName(n api.Node) {
	for _, module := range n.Subs {
		w.write(module.Name, ".")
	}
	w.write(n.Name)
}
