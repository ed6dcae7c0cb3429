package link_test

import (
	"fmt"
	"slices"
	"testing"

	"oberlin/api"
	"oberlin/gen"
	"oberlin/link"
)

// K1 asks it of an image: a deed may call what is exported, without parameters and result, by its names.
func TestCommand(t *testing.T) {
	image := loaded(t, compiled(t, low, side, mid, high)...)
	var numbers []int
	for _, module := range []string{"Low", "Mid", "High", "Side"} {
		number := image.Command(module, "Go")
		if number < 0 || number >= len(image.Procedures) || slices.Contains(numbers, number) {
			t.Errorf("%s.Go: %d", module, number)
		}
		numbers = append(numbers, number)
	}
	for _, x := range []api.Deed{{Module: "Low", Proc: "Up"}, {Module: "Low", Proc: "Of"}, {Module: "Low", Proc: "help"}, {Module: "Low", Proc: "p"}, {Module: "Low"}, {Proc: "Go"}, {}, {Module: "Nix", Proc: "Go"}, {Module: "Low", Proc: "Nix"}, {Module: "Lo", Proc: "wGo"}} {
		if number := image.Command(x.Module, x.Proc); number != gen.None {
			t.Errorf("%s.%s: %d", x.Module, x.Proc, number)
		}
	}
}

// What modules have lies in an image one behind the other; pointers are found in all of them, and records extend those of others.
func TestImage(t *testing.T) {
	image := loaded(t, compiled(t, low, side, mid, high)...)
	if image.Words != 2+0+1+1 || !slices.Equal(image.Points, []int{1, 2}) {
		t.Errorf("%d words, pointers at %v", image.Words, image.Points)
	}
	if want := []link.Record{{Words: 2, Points: []int{1}, Base: gen.None}, {Words: 3, Points: []int{1}, Base: 0}}; fmt.Sprint(image.Records) != fmt.Sprint(want) {
		t.Errorf("%v, wanted %v", image.Records, want)
	}
	code := 0
	for i, x := range image.Modules {
		if x.Code.First != code || x.Start < code || x.Start >= code+x.Code.Count {
			t.Errorf("code of %d: %v, from %d on", i, x, code)
		}
		code += x.Code.Count
	}
	if code != len(image.Code) {
		t.Errorf("%d instructions, wanted %d", len(image.Code), code)
	}
}

// G3 asks it of an image: a record extends itself, and what it is made from, and what that extends.
func TestExtends(t *testing.T) {
	image := loaded(t, compiled(t, "MODULE A; TYPE R* = RECORD END; S* = RECORD (R) END; END A.", "MODULE B; IMPORT A; TYPE T* = RECORD (A.S) END; U* = RECORD (A.R) END; END B.")...)
	const r, s, x, u = 0, 1, 2, 3
	extended := map[int][]int{r: {r}, s: {s, r}, x: {x, s, r}, u: {u, r}}
	for record := range 4 {
		for other := range 4 {
			if got := image.Extends(record, other); got != slices.Contains(extended[record], other) {
				t.Errorf("%d extends %d: %v", record, other, got)
			}
		}
	}
}

// An object that names what isn't there is none, though its bytes have the form of one.
func TestNotThere(t *testing.T) {
	l := compiled(t, low, mid)
	loaded(t, l...)
	first := func(o *gen.Object, op gen.Op) *gen.Instruction {
		return &o.Code[slices.IndexFunc(o.Code, func(i gen.Instruction) bool { return i.Op == op })]
	}
	for what, change := range map[string]func(*gen.Object){
		"start":             func(o *gen.Object) { o.Start = len(o.Code) },
		"start ahead":       func(o *gen.Object) { o.Start = -1 },
		"procedure's start": func(o *gen.Object) { o.Procedures[0].Start = len(o.Code) },
		"module":            func(o *gen.Object) { first(o, gen.Call).A = 2 },
		"module ahead":      func(o *gen.Object) { first(o, gen.Call).A = -1 },
		"procedure":         func(o *gen.Object) { first(o, gen.Call).B = 4 },
		"procedure ahead":   func(o *gen.Object) { first(o, gen.Call).B = -1 },
		"record":            func(o *gen.Object) { first(o, gen.New).B = 1 },
		"record of Is":      func(o *gen.Object) { first(o, gen.Is).B = 1 },
		"variable":          func(o *gen.Object) { first(o, gen.Variable).B = 2 },
		"jump":              func(o *gen.Object) { first(o, gen.Unless).A = len(o.Code) },
		"instruction":       func(o *gen.Object) { o.Code[0].Op = gen.Ops },
		"instruction ahead": func(o *gen.Object) { o.Code[0].Op = -1 },
		"base":              func(o *gen.Object) { o.Records[0].Base = gen.Part{Module: 1, Number: 1} },
		"base of itself":    func(o *gen.Object) { o.Records[0].Base = gen.Part{} },
	} {
		o, err := gen.Read(l[1])
		if err != nil {
			t.Fatal(err)
		}
		change(o)
		if image, err := link.Load([][]byte{l[0], o.Bytes()}); image != nil || fmt.Sprint(err) != fmt.Sprint(&api.Fault{Text: 1, Err: api.ErrForm}) {
			t.Errorf("%s: %v, %v", what, image, err)
		}
	}
}

// Z1, as far as it is promised of bytes, and beyond: every call ends, with an image or an error.
func FuzzLoad(f *testing.F) {
	l, err := gen.Compile([]string{low, mid})
	if err != nil {
		f.Fatal(err)
	}
	f.Add(l[0], l[1])
	f.Fuzz(func(t *testing.T, a, b []byte) {
		image, err := link.Load([][]byte{a, b})
		if (image == nil) == (err == nil) {
			t.Fatalf("%v, %v", image, err)
		}
	})
}
