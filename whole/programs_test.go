// Package whole: tests of what is to be true of the whole, on programs that are drawn.
package whole

import (
	"fmt"
	"math/rand"
	"strings"
	"testing"

	"oberlin/api"
	"oberlin/check"
)

// form of a drawn type.
type form int

const (
	integer form = iota
	truth
	pointer
	array
	record
)

// kind: a drawn type.
type kind struct {
	form   form
	module string
	name   string
	of     *kind // of an array, a pointer; what a record extends
	places int
	fields []variable
	words  int
}

// variable: a name and its type; also a field, a parameter.
type variable struct {
	name   string
	kind   *kind
	byName bool // VAR
}

// procedure that was drawn.
type procedure struct {
	module, name string
	parameters   []variable
	result       *kind
}

// drawer draws the texts of right modules.
type drawer struct {
	*rand.Rand
	integer, truth *kind
	kinds          []*kind // declared so far
	module         string
	globals        map[string][]variable // by modules
	procedures     []procedure
	scope          []variable // a procedure's own
	inside         *procedure
	nested         int // expressions within each other
	left           int // acts that the module may still have
	text           strings.Builder
}

// draw is a program: its texts, and what may be called.
func draw(seed int64) (texts []string, commands []api.Deed) {
	d := &drawer{Rand: rand.New(rand.NewSource(seed)), globals: map[string][]variable{}}
	d.integer, d.truth = &kind{form: integer, name: "INTEGER", words: 1}, &kind{form: truth, name: "BOOLEAN", words: 1}
	d.kinds = []*kind{d.integer, d.truth}
	for i := range 1 + d.Intn(3) {
		d.module = string(rune('A' + i))
		texts = append(texts, d.whole(i))
		if len(texts[i]) > api.MaxText {
			return draw(seed + 1<<32)
		}
	}
	for _, p := range d.procedures {
		if len(p.parameters) == 0 && p.result == nil {
			commands = append(commands, api.Deed{Module: p.module, Proc: p.name})
		}
	}
	return texts, commands
}

func (d *drawer) say(format string, a ...any) { fmt.Fprintf(&d.text, format, a...) }

func (d *drawer) whole(ahead int) string {
	d.text.Reset()
	d.left = 50
	d.say("MODULE %s;\n", d.module)
	for i := range ahead {
		d.say("%s%c", []string{"IMPORT ", ", "}[min(i, 1)], 'A'+i)
	}
	if ahead > 0 {
		d.say(";\n")
	}
	d.say("CONST c%s* = %d; d%s* = %s;\n", d.module, d.Intn(9), d.module, []string{"TRUE", "FALSE"}[d.Intn(2)])
	d.types()
	d.say("VAR\n")
	for i := range 4 + d.Intn(6) {
		v := variable{name: fmt.Sprintf("v%s%d", d.module, i), kind: d.anyKind(24)}
		d.globals[d.module] = append(d.globals[d.module], v)
		d.say("  %s*: %s;\n", v.name, d.named(v.kind))
	}
	d.bodies()
	d.say("BEGIN\n  %s\nEND %s.\n", d.acts(2), d.module)
	return d.text.String()
}

// types draws records, each with a pointer to it, and arrays.
func (d *drawer) types() {
	d.say("TYPE\n")
	for i := range 1 + d.Intn(3) {
		r := &kind{form: record, module: d.module, name: fmt.Sprintf("R%s%d", d.module, i)}
		p := &kind{form: pointer, module: d.module, name: fmt.Sprintf("P%s%d", d.module, i), of: r, words: 1}
		d.kinds = append(d.kinds, p)
		d.say("  %s* = POINTER TO %s;\n  %s* = RECORD ", p.name, r.name, r.name)
		if base := d.base(); base != nil {
			r.of, r.words, r.fields = base, base.words, append(r.fields, base.fields...)
			d.say("(%s) ", d.named(base))
		}
		for j := range d.Intn(4) {
			f := variable{name: fmt.Sprintf("f%s%d%d", d.module, i, j), kind: d.anyKind(8)}
			r.fields = append(r.fields, f)
			r.words += f.kind.words
			d.say("%s*: %s; ", f.name, d.named(f.kind))
		}
		d.say("END;\n")
		d.kinds = append(d.kinds, r)
		a := &kind{form: array, module: d.module, name: fmt.Sprintf("L%s%d", d.module, i), of: d.anyKind(8), places: 1 + d.Intn(4)}
		a.words = a.places * a.of.words
		d.say("  %s* = ARRAY %d OF %s;\n", a.name, a.places, d.named(a.of))
		d.kinds = append(d.kinds, a)
	}
}

// base is a record that may be extended; nil: none is.
func (d *drawer) base() *kind {
	for range d.Intn(12) {
		if k := d.kinds[d.Intn(len(d.kinds))]; k.form == record && k.words < 8 {
			return k
		}
	}
	return nil
}

// anyKind of at most so many words.
func (d *drawer) anyKind(most int) *kind {
	for {
		if k := d.kinds[d.Intn(len(d.kinds))]; k.words <= most {
			return k
		}
	}
}

func (d *drawer) oneWord() *kind {
	for {
		if k := d.anyKind(1); k.form < array {
			return k
		}
	}
}

func (d *drawer) named(k *kind) string {
	if k.module == "" || k.module == d.module {
		return k.name
	}
	return k.module + "." + k.name
}

// bodies draws procedures: first all heads, so that each may call all.
func (d *drawer) bodies() {
	first := len(d.procedures)
	for i := range 2 + d.Intn(4) {
		p := procedure{module: d.module, name: fmt.Sprintf("Q%s%d", d.module, i)}
		if i > 1 {
			for j := range d.Intn(4) {
				v := variable{name: fmt.Sprintf("a%d", j), byName: d.Intn(2) == 0}
				if v.kind = d.oneWord(); v.byName {
					v.kind = d.anyKind(24)
				}
				p.parameters = append(p.parameters, v)
			}
			if d.Intn(2) == 0 {
				p.result = d.oneWord()
			}
		}
		d.procedures = append(d.procedures, p)
	}
	for i := first; i < len(d.procedures); i++ {
		d.body(&d.procedures[i])
	}
	d.scope, d.inside = nil, nil
}

func (d *drawer) body(p *procedure) {
	var l []string
	d.scope, d.inside = nil, p
	for _, v := range p.parameters {
		d.scope = append(d.scope, v)
		l = append(l, []string{"", "VAR "}[b2i(v.byName)]+v.name+": "+d.named(v.kind))
	}
	d.say("PROCEDURE %s*", p.name)
	if len(l) > 0 || p.result != nil {
		d.say("(%s)", strings.Join(l, "; "))
	}
	if p.result != nil {
		d.say(": %s", d.named(p.result))
	}
	d.say(";\nVAR\n")
	for i := range d.Intn(4) {
		v := variable{name: fmt.Sprintf("b%d", i), kind: d.anyKind(16)}
		d.scope = append(d.scope, v)
		d.say("  %s: %s;\n", v.name, d.named(v.kind))
	}
	d.say("BEGIN\n  %s", d.acts(3))
	if p.result != nil && d.Intn(8) > 0 {
		d.say(";\n  RETURN %s", d.expression(p.result, 2))
	}
	d.say("\nEND %s;\n", p.name)
}

func b2i(b bool) int {
	if b {
		return 1
	}
	return 0
}

func (d *drawer) acts(deep int) string {
	var l []string
	for range 1 + d.Intn(4) {
		if d.left > 0 {
			d.left--
			l = append(l, d.act(deep))
		}
	}
	return strings.Join(l, "; ")
}

func (d *drawer) act(deep int) string {
	n := 9
	if deep > 0 {
		n = 14
	}
	switch d.Intn(n) {
	case 0, 1, 2:
		left, k := d.variable()
		return left + " := " + d.expression(k, 2)
	case 3:
		return "OUT(" + d.expression(d.integer, 2) + ")"
	case 4, 5:
		if x := d.place(func(k *kind) bool { return k.form == pointer }); x != "" {
			return "NEW(" + x + ")"
		}
	case 6:
		if x := d.place(func(k *kind) bool { return k == d.integer }); x != "" {
			return "GET(" + x + ")"
		}
	case 7:
		return d.call(nil)
	case 8:
		return d.rare()
	case 9, 10:
		return d.choice(deep - 1)
	case 11, 12:
		return "WHILE " + d.expression(d.truth, 2) + " DO " + d.acts(deep-1) + " END"
	case 13:
		return "REPEAT " + d.acts(deep-1) + " UNTIL " + d.expression(d.truth, 2)
	}
	return ""
}

// rare acts: those that often end all.
func (d *drawer) rare() string {
	switch d.Intn(6) {
	case 0:
		return "ASSERT(" + d.expression(d.truth, 2) + ")"
	case 1:
		if d.inside == nil || d.inside.result == nil {
			return "RETURN"
		}
		return "RETURN " + d.expression(d.inside.result, 1)
	}
	return ""
}

func (d *drawer) choice(deep int) string {
	s := "IF " + d.expression(d.truth, 2) + " THEN " + d.acts(deep)
	for range d.Intn(3) {
		s += " ELSIF " + d.expression(d.truth, 1) + " THEN " + d.acts(deep)
	}
	if d.Intn(2) == 0 {
		s += " ELSE " + d.acts(deep)
	}
	return s + " END"
}

// start of a designator: a variable that can be named here.
func (d *drawer) start() (string, *kind) {
	if len(d.scope) > 0 && d.Intn(2) == 0 {
		v := d.scope[d.Intn(len(d.scope))]
		return v.name, v.kind
	}
	module := string(rune('A' + d.Intn(int(d.module[0]-'A')+1)))
	l := d.globals[module]
	v := l[d.Intn(len(l))]
	if module == d.module {
		return v.name, v.kind
	}
	return module + "." + v.name, v.kind
}

// variable is any designator that may be assigned to.
func (d *drawer) variable() (string, *kind) {
	for {
		if x, k, guard := d.designator(); !guard {
			return x, k
		}
	}
}

// designator is any one; guard: it is a Guard.
func (d *drawer) designator() (x string, k *kind, guard bool) {
	x, k = d.start()
	for range 6 {
		if d.Intn(6) == 0 || k.form == pointer && d.Intn(2) == 0 {
			break // few pointers point to something from the beginning on
		}
		switch k.form {
		case array:
			x, k, guard = x+"["+d.index(k)+"]", k.of, false
		case record:
			if len(k.fields) == 0 {
				return x, k, guard
			}
			f := k.fields[d.Intn(len(k.fields))]
			x, k, guard = x+"."+f.name, f.kind, false
		case pointer:
			x, k, guard = d.behind(x, k)
		default:
			return x, k, guard
		}
	}
	return x, k, guard
}

// behind is a step from a pointer.
func (d *drawer) behind(x string, k *kind) (string, *kind, bool) {
	switch d.Intn(4) {
	case 0:
		return x + "^", k.of, false
	case 1:
		t := d.extended(k)
		return x + "{" + d.named(t) + "}", t, true
	}
	if len(k.of.fields) == 0 {
		return x + "^", k.of, false
	}
	f := k.of.fields[d.Intn(len(k.of.fields))]
	return x + "." + f.name, f.kind, false
}

// extended is a pointer to what extends another one's record.
func (d *drawer) extended(k *kind) *kind {
	for {
		if t := d.kinds[d.Intn(len(d.kinds))]; takes(k, t) {
			return t
		}
	}
}

// takes: a pointer's type takes another one.
func takes(k, other *kind) bool {
	if k.form != pointer || other.form != pointer {
		return k == other
	}
	for r := other.of; r != nil; r = r.of {
		if r == k.of {
			return true
		}
	}
	return false
}

func (d *drawer) index(k *kind) string {
	if d.Intn(6) == 0 {
		return d.expression(d.integer, 1)
	}
	return fmt.Sprint(d.Intn(k.places))
}

// place is a variable of a kind that will do; empty: none was found.
func (d *drawer) place(will func(*kind) bool) string {
	for range 40 {
		if x, k := d.variable(); will(k) {
			return x
		}
	}
	return ""
}

// call of some procedure with this result; empty: none was found.
func (d *drawer) call(result *kind) string {
	for range 6 {
		p := d.procedures[d.Intn(len(d.procedures))]
		if p.result != result && (result == nil || p.result == nil || !takes(result, p.result)) {
			continue
		}
		l, ok := d.arguments(p)
		if !ok {
			continue
		}
		s := p.name
		if p.module != d.module {
			s = p.module + "." + s
		}
		if len(l) > 0 || result != nil {
			s += "(" + strings.Join(l, ", ") + ")"
		}
		return s
	}
	return ""
}

func (d *drawer) arguments(p procedure) (l []string, ok bool) {
	for _, v := range p.parameters {
		x := ""
		if v.byName {
			x = d.place(func(k *kind) bool {
				return k == v.kind || k.form == record && takes(&kind{form: pointer, of: v.kind}, &kind{form: pointer, of: k})
			})
		} else {
			x = d.expression(v.kind, 1)
		}
		if x == "" {
			return nil, false
		}
		l = append(l, x)
	}
	return l, true
}

// expression of a kind.
func (d *drawer) expression(k *kind, deep int) string {
	if k.form >= array {
		return d.same(k)
	}
	if d.nested > 3 {
		return []string{"1", "TRUE", "NIL"}[k.form]
	}
	d.nested++
	defer func() { d.nested-- }()
	if d.Intn(4) == 0 {
		if x := d.call(k); x != "" {
			return x
		}
	}
	if d.Intn(3) > 0 {
		if x := d.place(func(t *kind) bool { return takes(k, t) }); x != "" {
			return x
		}
	}
	switch k.form {
	case integer:
		return d.number(deep)
	case truth:
		return d.condition(deep)
	}
	return "NIL"
}

// same: some variable of this kind; there is one, since the left side is one.
func (d *drawer) same(k *kind) string {
	for {
		if x, t, _ := d.designator(); t == k {
			return x
		}
	}
}

func (d *drawer) number(deep int) string {
	if deep == 0 || d.Intn(3) == 0 {
		switch d.Intn(12) {
		case 0:
			return fmt.Sprint(d.Int31())
		case 1:
			return "c" + d.module
		}
		return fmt.Sprint(d.Intn(7))
	}
	if d.Intn(8) == 0 {
		return "(-" + d.atom(d.integer, deep-1) + ")"
	}
	sign := []string{"+", "-", "*", "DIV", "MOD"}[d.Intn(5)]
	left, right := d.atom(d.integer, deep-1), d.atom(d.integer, deep-1)
	if sign == "DIV" || sign == "MOD" {
		right = fmt.Sprint(1 + d.Intn(5)) // else most commands would end there
		if d.Intn(9) == 0 {
			right = d.atom(d.integer, deep-1)
		}
	}
	return "(" + left + " " + sign + " " + right + ")"
}

func (d *drawer) atom(k *kind, deep int) string { return "(" + d.expression(k, deep) + ")" }

func (d *drawer) condition(deep int) string {
	if deep == 0 || d.Intn(5) == 0 {
		return []string{"TRUE", "FALSE", "d" + d.module}[d.Intn(3)]
	}
	switch d.Intn(6) {
	case 0:
		return "(~" + d.atom(d.truth, deep-1) + ")"
	case 1:
		return "(" + d.atom(d.truth, deep-1) + []string{" & ", " OR ", " = ", " # "}[d.Intn(4)] + d.atom(d.truth, deep-1) + ")"
	case 2, 3:
		if x := d.place(func(k *kind) bool { return k.form == pointer }); x != "" {
			return "(" + x + " # NIL)"
		}
	case 4:
		if x, k, _ := d.designator(); k.form == pointer {
			return "(" + x + " IS " + d.named(d.extended(k)) + ")"
		}
	}
	sign := []string{"=", "#", "<", "<=", ">", ">="}[d.Intn(6)]
	return "(" + d.atom(d.integer, deep-1) + " " + sign + " " + d.atom(d.integer, deep-1) + ")"
}

// script of some commands, with numbers to be read, and a call of nothing now and then.
func script(seed int64, commands []api.Deed) (l []api.Deed) {
	r := rand.New(rand.NewSource(seed))
	for range r.Intn(12) {
		x := commands[r.Intn(len(commands))]
		for range r.Intn(5) {
			x.Input = append(x.Input, r.Intn(12)-2)
		}
		if r.Intn(12) == 0 {
			x.Proc += "x"
		}
		l = append(l, x)
	}
	return l
}

// All that is drawn is right; else the other tests would say nothing.
func TestDrawn(t *testing.T) {
	for seed := range int64(400) {
		texts, commands := draw(seed)
		if err := check.Check(texts); err != nil || len(commands) == 0 {
			t.Fatalf("%d: %v, %d commands:\n%s", seed, err, len(commands), strings.Join(texts, "\n"))
		}
	}
}
