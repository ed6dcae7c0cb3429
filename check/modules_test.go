package check_test

import (
	"slices"
	"testing"

	"oberlin/api"
	"oberlin/check"
)

// D1, D2: modules come in the order of their texts, with what they declare in the order of the declarations.
func TestModules(t *testing.T) {
	modules, err := check.Modules([]string{lib, inX("CONST b = 7; a* = TRUE; TYPE T* = RECORD (Lib.Big) f: Lib.Row; g*: INTEGER; END; VAR z: Lib.R; y*: INTEGER; PROCEDURE p*(VAR i: T); BEGIN END p;")})
	if err != nil || len(modules) != 2 || modules[0].Name != "Lib" || modules[1].Name != "X" {
		t.Fatalf("%v, %v", modules, err)
	}
	names := ""
	for _, x := range modules[1].Declared {
		if names += " " + x.Name; x.Exported {
			names += "*"
		}
	}
	if names != " b a* T* z y* p*" {
		t.Errorf("declared: %s", names)
	}
	if y := modules[1].Declared[4]; y.First != 3 || y.Kind != check.AVariable || y.Type.Form != check.AnInteger {
		t.Errorf("y: %+v", y)
	}
	record := modules[1].TypeNamed("T")
	if f, owner := record.FindField("g"); owner != record || f.First != 9 || !f.Exported || record.Words != 10 {
		t.Errorf("g: %+v of %+v", f, owner)
	}
	if f, owner := record.FindField("own"); owner != modules[0].TypeNamed("Big") || f.First != 4 || f.Exported {
		t.Errorf("own: %+v of %+v", f, owner)
	}
	if _, owner := record.FindField("nix"); owner != nil || modules[1].TypeNamed("z") != nil || modules[1].TypeNamed("Lib") != nil {
		t.Error("there is what should not be")
	}
}

// D2: a module has those that it imports, as its text names them.
func TestModuleImports(t *testing.T) {
	modules, err := check.Modules([]string{"MODULE A; END A.", "MODULE B; END B.", "MODULE C; IMPORT B, A; END C.", "MODULE D; IMPORT C; END D."})
	if err != nil {
		t.Fatal(err)
	}
	for i, want := range [][]*check.Module{nil, nil, {modules[1], modules[0]}, {modules[2]}} {
		if !slices.Equal(modules[i].Imports, want) {
			t.Errorf("%s imports %v", modules[i].Name, modules[i].Imports)
		}
	}
}

// D1: the module of a text by its number; none beside an error.
func TestModuleOf(t *testing.T) {
	for number, want := range []string{"Lib", "X"} {
		if m, err := check.ModuleOf([]string{lib, inX("")}, number); err != nil || m.Name != want {
			t.Errorf("%d: %v %v", number, m, err)
		}
	}
	for _, number := range []int{-1, 2} {
		if m, err := check.ModuleOf([]string{lib, inX("")}, number); err != api.ErrName || m != nil {
			t.Errorf("%d: %v %v", number, m, err)
		}
	}
	if m, err := check.ModuleOf([]string{lib, inX("CONST a = b;")}, 0); m != nil || err == nil {
		t.Errorf("of wrong texts: %v %v", m, err)
	}
	if l, err := check.Modules([]string{lib, inX("CONST a = b;")}); l != nil || err == nil {
		t.Errorf("of wrong texts: %v %v", l, err)
	}
}

// D4, D6: what a procedure's names mean, and where its parameters and variables lie; the names of its module behind them.
func TestBodies(t *testing.T) {
	modules, err := check.Modules([]string{lib, inX("TYPE T* = RECORD f: INTEGER; END; VAR y*: INTEGER; Z: T; PROCEDURE p*(a: INTEGER; VAR b: T): BOOLEAN; VAR y: Lib.Row; c: INTEGER; BEGIN RETURN TRUE END p; BEGIN y := 1")})
	if err != nil {
		t.Fatal(err)
	}
	x := modules[1]
	p := x.Shown("p").Procedure
	if x.Words != 2 || len(x.Acts) != 1 || x.Shown("Z") != nil || x.Shown("y").Home != x {
		t.Errorf("%+v", x)
	}
	if p.Words != 7 || len(p.Acts) != 1 || p.Result.Form != check.ABoolean || len(p.Parameters) != 2 {
		t.Errorf("%+v", p)
	}
	for i, first := range []int{0, 1} {
		if a := p.Parameters[i]; a.First != first || a.ByVariable != (i == 1) || a.Home != nil {
			t.Errorf("%+v", a)
		}
	}
	ref := func(name string) api.Node { return api.Node{Kind: api.Ref, Name: name} }
	if y, c, z := p.Meaning(ref("y")), p.Meaning(ref("c")), p.Meaning(ref("Z")); y.First != 2 || y.Type.Words != 4 || c.First != 6 || z != x.Declared[2] || p.Meaning(ref("nix")) != nil {
		t.Errorf("%+v %+v %+v", y, c, z)
	}
	row := api.Node{Kind: api.TypeName, Name: "Row", Subs: []api.Node{ref("Lib")}}
	if p.TypeMeant(row) != modules[0].TypeNamed("Row") || p.TypeMeant(api.Node{Kind: api.TypeName, Name: "T"}) != x.TypeNamed("T") || p.TypeMeant(api.Node{Kind: api.TypeName, Name: "y"}) != nil || x.TypeMeant(api.Node{Kind: api.TypeName, Name: "BOOLEAN"}).Form != check.ABoolean {
		t.Error("types mean other ones")
	}
}
