package tidy_test

import (
	"fmt"
	"math/rand"
	"testing"

	"oberlin/api"
	"oberlin/parse"
	"oberlin/tidy"
)

// expect is what should come of a tree, by the rules one by one.
func expect(n api.Node) api.Node {
	var l []api.Node
	for _, x := range n.Subs {
		if x = expect(x); x.Kind != api.While || x.Subs[0].Kind != api.False {
			l = append(l, x)
		}
	}
	n.Subs = l
	made := func(kind int) api.Node { return api.Node{Kind: kind, At: n.At} }
	says := map[bool]api.Node{true: made(api.True), false: made(api.False)}
	switch {
	case n.Kind == api.Not && l[0].Kind == api.True:
		return says[false]
	case n.Kind == api.Not && l[0].Kind == api.False:
		return says[true]
	case n.Kind != api.Op:
		return n
	case n.Name == "&" && l[0].Kind == api.True, n.Name == "OR" && l[0].Kind == api.False:
		return l[1]
	case n.Name == "&" && l[0].Kind == api.False, n.Name == "OR" && l[0].Kind == api.True:
		return l[0]
	}
	x, y := numberOf(l[0]), numberOf(l[1])
	if x == nil || y == nil {
		return n
	}
	switch n.Name {
	case "=":
		return says[*x == *y]
	case "#":
		return says[*x != *y]
	case "<":
		return says[*x < *y]
	case "<=":
		return says[*x <= *y]
	case ">":
		return says[*x > *y]
	case ">=":
		return says[*x >= *y]
	}
	z := made(api.Number)
	v := worked(n.Name, *x, *y)
	switch {
	case v == nil || *v == -1<<31:
		return n
	case *v < 0:
		z.Num = int(-*v)
		neg := made(api.Neg)
		neg.Subs = []api.Node{z}
		return neg
	}
	z.Num = int(*v)
	return z
}

func numberOf(n api.Node) *int64 {
	v := int64(n.Num)
	if n.Kind == api.Neg && n.Subs[0].Kind == api.Number {
		v = -int64(n.Subs[0].Num)
	} else if n.Kind != api.Number {
		return nil
	}
	return &v
}

// worked is what an operator makes of two numbers; nil: nothing.
func worked(sign string, x, y int64) *int64 {
	v := int64(0)
	switch sign {
	case "+":
		v = x + y
	case "-":
		v = x - y
	case "*":
		v = x * y
	case "DIV", "MOD":
		if y <= 0 {
			return nil
		}
		for v = x / y; v*y > x; v-- {
		}
		if sign == "MOD" {
			v = x - v*y
		}
	default:
		return nil
	}
	v &= 1<<32 - 1
	if v >= 1<<31 {
		v -= 1 << 32
	}
	return &v
}

// drawing of texts that are often plain.
type drawing struct{ *rand.Rand }

func (d drawing) pick(l ...string) string { return l[d.Intn(len(l))] }

func (d drawing) expression(deep int) string {
	if deep == 0 || d.Intn(7) == 0 {
		return d.pick("TRUE", "FALSE", "0", "1", "2", "7", "46341", "2147483647", fmt.Sprint(d.Int31()), "b", "NIL")
	}
	a := d.expression(deep - 1)
	switch d.Intn(9) {
	case 0:
		return "(-" + a + ")"
	case 1:
		return "(~" + a + ")"
	case 2:
		return d.pick("f("+a+")", "a["+a+"]", "(x IS T) & "+a, "(b = a["+a+"])")
	}
	return "(" + a + " " + d.pick("+", "-", "*", "DIV", "MOD", "=", "#", "<", "<=", ">", ">=", "&", "OR", "&", "OR", "+") + " " + d.expression(deep-1) + ")"
}

func (d drawing) acts(deep int) string {
	s := ""
	for range d.Intn(4) {
		x := d.expression(3)
		if deep == 0 {
			s += d.pick("x := "+x, "OUT("+x+")", "RETURN "+x, "f("+x+")") + "; "
			continue
		}
		s += d.pick("WHILE "+x+" DO "+d.acts(deep-1)+" END", "WHILE FALSE DO "+d.acts(deep-1)+" END", "IF "+x+" THEN "+d.acts(deep-1)+" ELSE "+d.acts(deep-1)+" END", "REPEAT "+d.acts(deep-1)+" UNTIL "+x) + "; "
	}
	return s
}

// scattered is a tree whose nodes have places that no text gives them.
func (d drawing) scattered(n api.Node) api.Node {
	n.At = d.Intn(1 << 20)
	l := make([]api.Node, len(n.Subs))
	for i, x := range n.Subs {
		l[i] = d.scattered(x)
	}
	n.Subs = l
	return n
}

// H1: trees that are drawn, with the places of a text, and with others; and what is tidied is tidy.
func TestDrawnTrees(t *testing.T) {
	d := drawing{rand.New(rand.NewSource(11))}
	read := 0
	for range 1500 {
		n, err := parse.Parse("MODULE M; CONST c = " + d.expression(5) + "; PROCEDURE P; BEGIN " + d.acts(2) + " END P; BEGIN " + d.acts(2) + " END M.")
		if err != nil {
			continue // too long, or too deep
		}
		read++
		m := folded(t, n)
		if !same(m, expect(n)) {
			t.Fatalf("%v: %v, wanted %v", n, m, expect(n))
		}
		if !same(m, folded(t, m)) {
			t.Fatalf("%v: %v", m, folded(t, m))
		}
		if n = d.scattered(n); !same(folded(t, n), expect(n)) {
			t.Fatalf("%v: %v, wanted %v", n, folded(t, n), expect(n))
		}
	}
	if read < 400 {
		t.Errorf("only %d trees", read)
	}
}

func FuzzFold(f *testing.F) {
	f.Add("MODULE M; CONST c = 1 + 2 * 3; BEGIN WHILE ~TRUE & b DO x := -(1 - 3) DIV 0 END; IF 1 < 2 THEN a[2147483647 + 1] := FALSE OR b END END M.")
	f.Fuzz(func(t *testing.T, text string) {
		n, err := parse.Parse(text)
		if err != nil {
			return
		}
		if m, err := tidy.Fold(n); err != nil || !same(m, expect(n)) {
			t.Fatalf("%v: %v, %v, wanted %v", n, m, err, expect(n))
		}
	})
}
