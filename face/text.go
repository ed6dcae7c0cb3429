package face

import (
	"strconv"
	"strings"

	"oberlin/check"
)

// Text is what a module shows: all that the code of others may hang on. Its types are told whole, also those that aren't exported: what is exported may be made of them.
func Text(m *check.Module) string {
	var b strings.Builder
	b.WriteString(m.Name + "\n")
	for _, t := range m.Declared {
		if t.Exported || t.Kind == check.AType {
			b.WriteString(line(t) + "\n")
		}
	}
	return b.String()
}

// line tells a thing that a module declares.
func line(t *check.Thing) string {
	switch t.Kind {
	case check.AConstant:
		return "CONST " + t.Name + " " + name(t.Type) + " " + strconv.Itoa(int(t.Value))
	case check.AType:
		return "TYPE " + marked(t.Name, t.Exported) + " " + typeText(t.Type)
	case check.AVariable:
		return "VAR " + t.Name + " " + name(t.Type) + " " + strconv.Itoa(t.First)
	}
	return "PROCEDURE " + t.Name + head(t.Procedure)
}

// marked is a name, with a star behind it, if it is exported.
func marked(name string, exported bool) string {
	if exported {
		return name + "*"
	}
	return name
}

// name of a type, by which every module means the same.
func name(t *check.Type) string {
	if t.Home == nil {
		return t.Name
	}
	return t.Home.Name + "." + t.Name
}

// typeText is what a type is made of.
func typeText(t *check.Type) string {
	switch t.Form {
	case check.AnArray:
		return "ARRAY " + strconv.Itoa(t.Places) + " " + name(t.Of)
	case check.APointer:
		return "POINTER " + name(t.Of)
	}
	return recordText(t)
}

func recordText(t *check.Type) string {
	var b strings.Builder
	b.WriteString("RECORD " + strconv.Itoa(t.Words))
	if t.Of != nil {
		b.WriteString(" (" + name(t.Of) + ")")
	}
	for _, f := range t.Fields {
		b.WriteString(" " + marked(f.Name, f.Exported) + ":" + name(f.Type) + "@" + strconv.Itoa(f.First))
	}
	return b.String()
}

// head of a procedure, behind its name.
func head(p *check.Procedure) string {
	var b strings.Builder
	for _, x := range p.Parameters {
		if x.ByVariable {
			b.WriteString(" VAR")
		}
		b.WriteString(" " + name(x.Type))
	}
	if p.Result != nil {
		b.WriteString(" : " + name(p.Result))
	}
	return b.String()
}
