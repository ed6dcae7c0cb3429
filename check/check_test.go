package check_test

import (
	"errors"
	"slices"
	"strings"
	"testing"

	"oberlin/api"
	"oberlin/check"
)

// The examples of the document.
func TestExamples(t *testing.T) {
	expect(t, api.ErrType, "MODULE M; VAR i: INTEGER; BEGIN i := @TRUE END M.")
	l := `MODULE L;
CONST two* = 1 + 1;
TYPE P* = POINTER TO R; R* = RECORD v*: INTEGER; n*: P; END; Big = RECORD (R) more: INTEGER; END;
VAR p*: P;
PROCEDURE Push*(x: INTEGER); VAR q: P;
BEGIN NEW(q); q.v := x; q.n := p; p := q END Push;
END L.`
	m := `MODULE M; IMPORT L; VAR i: INTEGER;
PROCEDURE Go*;
BEGIN GET(i); WHILE i > 0 DO L.Push(i * L.two); i := i - 1 END; OUT(L.p.v + 2 * 3); L.p := L.p.n
END Go; END M.`
	expect(t, api.OK, l, m)
	expect(t, api.ErrName, strings.Replace(m, "IMPORT L", "IMPORT @L", 1), l)
}

// D1: how many texts there may be; above that it is told of none of them.
func TestModulesLimit(t *testing.T) {
	expect(t, api.OK)
	var l []string
	for i := range api.MaxModules {
		l = append(l, "MODULE "+letters(i)+"; END "+letters(i)+".")
	}
	expect(t, api.OK, l...)
	expect(t, api.ErrLimit, append(l, "MODULE z; END z.")...)
	many := append([]string{"wrong"}, l...)
	if err := check.Check(many); err != api.ErrLimit {
		t.Errorf("too many texts, the first one wrong: %v, wanted the bare error %v", err, api.ErrLimit)
	}
}

// D1: what Parse says is told with the number of the text.
func TestFaultsOfParse(t *testing.T) {
	good := "MODULE A; END A."
	for _, x := range []trial{
		{api.ErrShort, "@"},
		{api.ErrShort, "MODULE M; @(* "},
		{api.ErrShort, "MODULE M; END M@"},
		{api.ErrSign, "MODULE M; @! END M."},
		{api.ErrWord, "MODULE M; BEGIN x := 1 + @END M."},
		{api.ErrWord, "MODULE M; END @A."},
		{api.ErrLimit, "MODULE M; CONST a = @2147483648; END M."},
		{api.ErrLimit, "MODULE @abcdefghijklm; END abcdefghijklm."},
	} {
		expect(t, x.want, x.text)
		expect(t, x.want, good, x.text)
		expect(t, x.want, good, "MODULE B; END B.", x.text, good)
	}
}

// D1: a text that is too long is told at 0; one of just as many bytes as may be isn't.
func TestTooLongText(t *testing.T) {
	good := "MODULE A; END A."
	fit := "MODULE M; END M." + strings.Repeat(" ", api.MaxText-len("MODULE M; END M."))
	expect(t, api.OK, good, fit)
	expect(t, api.ErrLimit, good, "@"+fit+" ")
	expect(t, api.ErrLimit, "@"+strings.Repeat("!", api.MaxText+1))
}

// D1: no two modules have one name; that is told behind what Parse says, ahead of all else, at the module.
func TestModuleTwice(t *testing.T) {
	a := "MODULE A; END A."
	expect(t, api.ErrTwice, a, "@"+a)
	expect(t, api.ErrTwice, a, "MODULE B; END B.", "(* once more *) @MODULE A; END A.")
	expect(t, api.ErrTwice, a, "@MODULE A; IMPORT Nix; VAR x: y; END A.")
	expect(t, api.ErrWord, a, "MODULE A; VAR x@; END A.")
	expect(t, api.OK, a, "MODULE a; END a.")
}

// D1: text by text: what is wrong in one is told ahead of all that is wrong in those behind it.
func TestTextByText(t *testing.T) {
	bad := "MODULE B; BEGIN x := 1 END B."
	expect(t, api.ErrName, "MODULE A; BEGIN @y := 1 END A.", bad, "!", "")
	expect(t, api.ErrName, "MODULE A; END A.", "MODULE B; BEGIN @x := 1 END B.", "!")
	expect(t, api.ErrSign, "MODULE A; END A.", "@!", bad)
}

// D1: within a text what is wrong is told in the order of the promises, not of the places.
func TestOrderWithinText(t *testing.T) {
	faults := []trial{
		{api.ErrName, "MODULE X; IMPORT @Nix;"},
		{api.ErrTwice, "CONST @INTEGER = 1;"},
		{api.ErrLimit, "TYPE T = @ARRAY 0 OF INTEGER;"},
		{api.ErrName, "VAR v: @Nix;"},
		{api.ErrType, "PROCEDURE p(x: @Lib.Row); BEGIN END p;"},
		{api.ErrKind, "PROCEDURE q; BEGIN @five := 1 END q;"},
		{api.ErrName, "BEGIN @nix := 1"},
	}
	right := []string{"MODULE X; IMPORT Lib;", "CONST five = 5;", "TYPE T = ARRAY 1 OF INTEGER;", "VAR v: INTEGER;", "PROCEDURE p; BEGIN END p;", "PROCEDURE q; BEGIN END q;", ""}
	for i, x := range faults {
		var parts []string
		parts = append(parts, right[:i]...)
		parts = append(parts, x.text)
		for _, y := range faults[i+1:] {
			parts = append(parts, strings.Replace(y.text, "@", "", 1))
		}
		expect(t, x.want, lib, strings.Join(parts, " ")+" END X.")
	}
	// What stands behind is told first, if it is asked first.
	expect(t, api.ErrTwice, lib, inX("TYPE A = ARRAY 0 OF INTEGER; @A = RECORD END;"))
	expect(t, api.ErrName, lib, inX("PROCEDURE p; BEGIN x := 1 END p; PROCEDURE q(a: @Nix); BEGIN END q;"))
}

// Z3: what is wrong in a text is a fault with a bare error of package api.
func TestFaultsAreFaults(t *testing.T) {
	for _, text := range []string{"", "!", strings.Repeat(" ", api.MaxText+1), "MODULE A; BEGIN x END A."} {
		var f *api.Fault
		err := check.Check([]string{"MODULE L; END L.", text})
		if !errors.As(err, &f) {
			t.Fatalf("%.30q: %v is no fault", text, err)
		}
		if _, ok := f.Err.(api.Errno); !ok || f.Text != 1 {
			t.Errorf("%.30q: a fault of %v, in %d", text, f.Err, f.Text)
		}
	}
	if err := check.Check([]string{"MODULE L; END L."}); err != nil {
		t.Errorf("what is right: %v", err)
	}
}

// Z2: a list that is handed in isn't written into, and what is told hangs on it alone.
func TestListsStay(t *testing.T) {
	all := []string{lib, inX(fixed), "MODULE Y; IMPORT X; BEGIN X.Go END Y.", "behind"}
	kept := slices.Clone(all)
	first := check.Check(all[:3])
	for range 3 {
		if err := check.Check(all[:3]); err.Error() != first.Error() {
			t.Errorf("once %v, once %v", first, err)
		}
		if err := check.Check(all[:2]); err != nil {
			t.Errorf("what is right: %v", err)
		}
	}
	if !slices.Equal(all, kept) {
		t.Error("the list has changed")
	}
}
