package layout_test

import (
	"math/rand"
	"slices"
	"strconv"
	"strings"
	"testing"

	"oberlin/layout"
)

// drawn is a type that was drawn: each of its words is a letter, p for a pointer, n for what is none.
type drawn struct {
	name   string // as its own module calls it
	module int
	words  string
	record bool
	fields []part
}

// part of a record, also from what it extends.
type part struct {
	name, words string
	off         int
}

// drawing makes modules of types, and knows by itself where their parts lie.
type drawing struct {
	*rand.Rand
	types  []drawn
	module int
	number int
}

// called is how a type is named in the module that is made now.
func (d *drawing) called(x drawn) string {
	if x.module == d.module || x.module < 0 {
		return x.name
	}
	return "M" + strconv.Itoa(x.module) + "." + x.name
}

func (d *drawing) fresh(letter string) string {
	d.number++
	return letter + strconv.Itoa(d.number)
}

// some is one of the types so far.
func (d *drawing) some() drawn { return d.types[d.Intn(len(d.types))] }

// small is one of the types so far that has few words.
func (d *drawing) small(most int) drawn {
	for {
		if x := d.some(); len(x.words) <= most {
			return x
		}
	}
}

// someRecord is one of the records so far.
func (d *drawing) someRecord() (drawn, bool) {
	for range 20 {
		if x := d.some(); x.record && len(x.words) < 200 {
			return x, true
		}
	}
	return drawn{}, false
}

// declaration draws a type more, and answers what declares it.
func (d *drawing) declaration() string {
	x := drawn{name: d.fresh("T"), module: d.module}
	text := ""
	switch d.Intn(4) {
	case 0:
		of, places := d.small(40), 1+d.Intn(6)
		x.words = strings.Repeat(of.words, places)
		text = "ARRAY " + strconv.Itoa(places) + " OF " + d.called(of)
	case 1:
		if of, ok := d.someRecord(); ok {
			x.words = "p"
			text = "POINTER TO " + d.called(of)
			break
		}
		fallthrough
	default:
		text = d.recordText(&x)
	}
	d.types = append(d.types, x)
	return x.name + "* = " + text + "; "
}

func (d *drawing) recordText(x *drawn) string {
	x.record = true
	text := "RECORD "
	if base, ok := d.someRecord(); ok && d.Intn(2) == 0 {
		x.words, x.fields = base.words, slices.Clone(base.fields)
		text += "(" + d.called(base) + ") "
	}
	for range d.Intn(5) {
		of := d.small(60)
		f := part{name: d.fresh("f"), words: of.words, off: len(x.words)}
		x.fields = append(x.fields, f)
		x.words += of.words
		text += f.name + []string{"", "*"}[d.Intn(2)] + ": " + d.called(of) + "; "
	}
	return text + "END"
}

// texts draws modules, each of which imports all ahead of it.
func (d *drawing) texts() []string {
	d.types = []drawn{{name: "INTEGER", module: -1, words: "n"}, {name: "BOOLEAN", module: -1, words: "n"}}
	var texts []string
	for d.module = range 1 + d.Intn(4) {
		text := "MODULE M" + strconv.Itoa(d.module) + "; "
		for i := range d.module {
			text += []string{"IMPORT ", ", "}[min(i, 1)] + "M" + strconv.Itoa(i)
		}
		text += []string{"", "; "}[min(d.module, 1)] + "TYPE "
		for range 2 + d.Intn(20) {
			text += d.declaration()
		}
		texts = append(texts, text+"END M"+strconv.Itoa(d.module)+".")
	}
	return texts
}

// pointsIn are the places of a letter.
func pointsIn(words string) []int {
	var l []int
	for i := range len(words) {
		if words[i] == 'p' {
			l = append(l, i)
		}
	}
	return l
}

// E1: types that are drawn lie as their words were put together.
func TestRandomTypes(t *testing.T) {
	d := &drawing{Rand: rand.New(rand.NewSource(5))}
	for range 150 {
		texts := d.texts()
		for _, x := range d.types[2:] {
			d.hold(t, texts, x)
		}
	}
}

// hold a drawn type against what is told of it.
func (d *drawing) hold(t *testing.T, texts []string, x drawn) {
	t.Helper()
	size, points, err := layout.Of(texts, x.module, x.name)
	if err != nil || size != len(x.words) || !slices.Equal(points, pointsIn(x.words)) {
		t.Fatalf("%q: %s: %d %v %v, wanted %s", texts, x.name, size, points, err, x.words)
	}
	for _, f := range x.fields {
		off, size, err := layout.Field(texts, x.module, x.name, f.name)
		if err != nil || off != f.off || size != len(f.words) {
			t.Fatalf("%q: %s.%s: %d %d %v, wanted %d %d", texts, x.name, f.name, off, size, err, f.off, len(f.words))
		}
	}
}

// E1, Z1: whatever the texts are, pointers lie rising within the words, and each field does.
func FuzzOf(f *testing.F) {
	for _, text := range two {
		f.Add(text, 1, "Node", "val")
	}
	f.Add("MODULE M; TYPE A = ARRAY 3 OF P; P = POINTER TO A; END M.", 0, "A", "")
	f.Fuzz(func(t *testing.T, text string, module int, name, field string) {
		for _, texts := range [][]string{{text}, {two[0], text}} {
			size, points, err := layout.Of(texts, module, name)
			if err != nil && (size != 0 || len(points) != 0) {
				t.Errorf("%d %v beside %v", size, points, err)
			}
			for i, p := range points {
				if p < 0 || p >= size || i > 0 && p <= points[i-1] {
					t.Errorf("points %v of %d words", points, size)
				}
			}
			off, part, fieldErr := layout.Field(texts, module, name, field)
			if off < 0 || part < 0 || off+part > size || fieldErr != nil && off+part > 0 || err != nil && fieldErr == nil {
				t.Errorf("field at %d of %d: %v; of %d words: %v", off, part, fieldErr, size, err)
			}
		}
	})
}
