package tidy_test

import (
	"math"
	"reflect"
	"runtime/debug"
	"strings"
	"testing"

	"oberlin/api"
	"oberlin/parse"
	"oberlin/print"
	"oberlin/tidy"
)

// tree of a text that must have one.
func tree(t *testing.T, text string) api.Node {
	t.Helper()
	n, err := parse.Parse(text)
	if err != nil {
		t.Fatalf("%q: %v", text, err)
	}
	return n
}

// folded is what comes of a tree that some text has.
func folded(t *testing.T, n api.Node) api.Node {
	t.Helper()
	m, err := tidy.Fold(n)
	if err != nil {
		t.Fatalf("%v: %v", n, err)
	}
	return m
}

// written is the text of a tree that must have one.
func written(t *testing.T, n api.Node) string {
	t.Helper()
	s, err := print.Text(n)
	if err != nil {
		t.Fatalf("%v: %v", n, err)
	}
	return s
}

// tidied is a text with what is plain worked out.
func tidied(t *testing.T, text string) string {
	t.Helper()
	return written(t, folded(t, tree(t, text)))
}

// becomes holds what an expression becomes, wherever one may stand, against another one.
func becomes(t *testing.T, x, want string) {
	t.Helper()
	for _, around := range []string{
		"MODULE M; CONST c = #; END M.",
		"MODULE M; BEGIN x := # END M.",
		"MODULE M; BEGIN a[#][1] := y END M.",
		"MODULE M; BEGIN f(1, #, 2); x := f(#) + 1 + b END M.",
		"MODULE M; BEGIN IF b THEN ELSIF (#) = b THEN OUT(#) END END M.",
		"MODULE M; BEGIN WHILE b = (#) DO ASSERT(#) END; REPEAT UNTIL # END M.",
		"MODULE M; PROCEDURE P(): T; BEGIN NEW(a[#]); GET(a[#]); RETURN # END P; BEGIN b := (#) IS T; b := a[#]^{T}.c END M.",
	} {
		text := strings.ReplaceAll(around, "#", x)
		if got, want := tidied(t, text), written(t, tree(t, strings.ReplaceAll(around, "#", want))); got != want {
			t.Errorf("%s: got\n%s; wanted\n%s", text, got, want)
		}
	}
}

// H1: what is plain, and what is not.
func TestExpressions(t *testing.T) {
	for _, x := range [][2]string{
		{"~TRUE", "FALSE"}, {"~FALSE", "TRUE"}, {"~ ~TRUE", "TRUE"}, {"~b", "~b"}, {"~1", "~1"}, {"~NIL", "~NIL"},
		{"1 + 2", "3"}, {"1 - 9", "-8"}, {"3 * 5", "15"}, {"7 DIV 2", "3"}, {"7 MOD 2", "1"}, {"1 + 2 * 3 - 4", "3"}, {"(1 + 2) * (5 - 7)", "-6"},
		{"(-7) DIV 2", "-4"}, {"(-7) MOD 2", "1"}, {"(-8) DIV 4", "-2"}, {"(-8) MOD 4", "0"}, {"-7 DIV 2", "-3"}, {"0 DIV 3", "0"},
		{"5 DIV 0", "5 DIV 0"}, {"5 MOD 0", "5 MOD 0"}, {"5 DIV (-1)", "5 DIV (-1)"}, {"5 MOD (1 - 2)", "5 MOD (-1)"}, {"1 + 5 DIV 0", "1 + 5 DIV 0"}, {"5 DIV (-0)", "5 DIV (-0)"},
		{"2147483647 + 1", "2147483647 + 1"}, {"2147483647 + 2", "-2147483647"}, {"-2147483647 - 1", "-2147483647 - 1"}, {"-2147483647 - 2", "2147483647"}, {"65536 * 32768", "65536 * 32768"}, {"65536 * 65536", "0"}, {"2147483647 * 2147483647", "1"},
		{"-(1 + 2)", "-3"}, {"-(1 - 3)", "-(-2)"}, {"-(-1)", "-(-1)"}, {"-(-1) + 1", "-(-1) + 1"}, {"-0 + 0", "0"}, {"-1 + 1", "0"}, {"-3 + 1", "-2"}, {"2 - (-3)", "5"}, {"(-2) * (-3)", "6"}, {"-2 * 3", "-6"},
		{"1 = 1", "TRUE"}, {"1 = 2", "FALSE"}, {"1 # 1", "FALSE"}, {"1 # 2", "TRUE"}, {"1 < 1", "FALSE"}, {"1 < 2", "TRUE"}, {"1 <= 1", "TRUE"}, {"2 <= 1", "FALSE"}, {"1 > 1", "FALSE"}, {"2 > 1", "TRUE"}, {"1 >= 1", "TRUE"}, {"1 >= 2", "FALSE"},
		{"-1 < 1", "TRUE"}, {"(-2) > (-1)", "FALSE"}, {"1 + 1 = 4 DIV 2", "TRUE"}, {"0 = (-0)", "TRUE"}, {"-2147483647 < 2147483647", "TRUE"},
		{"TRUE = TRUE", "TRUE = TRUE"}, {"TRUE # FALSE", "TRUE # FALSE"}, {"(1 < 2) = TRUE", "TRUE = TRUE"}, {"NIL = NIL", "NIL = NIL"}, {"1 = TRUE", "1 = TRUE"}, {"TRUE = 1", "TRUE = 1"}, {"x = 1", "x = 1"}, {"1 < x", "1 < x"},
		{"TRUE & b", "b"}, {"FALSE & b", "FALSE"}, {"FALSE OR b", "b"}, {"TRUE OR b", "TRUE"}, {"b & TRUE", "b & TRUE"}, {"b & FALSE", "b & FALSE"}, {"b OR TRUE", "b OR TRUE"}, {"b OR FALSE", "b OR FALSE"}, {"b & c", "b & c"}, {"1 & b", "1 & b"}, {"NIL OR b", "NIL OR b"},
		{"TRUE & FALSE", "FALSE"}, {"TRUE & TRUE", "TRUE"}, {"FALSE OR FALSE", "FALSE"}, {"TRUE OR (1 DIV 0 = x)", "TRUE"}, {"(1 < 2) & (3 < 4) & b", "b"}, {"b & (TRUE & c)", "b & c"}, {"(2 < 1) OR (x < 1 + 1)", "x < 2"}, {"TRUE & (1 + 2)", "3"}, {"FALSE OR f(1 + 2, b)", "f(3, b)"},
		{"x + 1 + 2", "x + 1 + 2"}, {"1 + 2 + x", "3 + x"}, {"x * (2 * 3)", "x * 6"}, {"1 + TRUE", "1 + TRUE"}, {"TRUE + 1", "TRUE + 1"}, {"1 + NIL", "1 + NIL"}, {"2 + a[1 + 1]", "2 + a[2]"}, {"f()", "f()"}, {"f(2 * 3 > 5)", "f(TRUE)"}, {"a[1 - 1]", "a[0]"}, {"a[1 - 2]", "a[-1]"}, {"c", "c"}, {"M.c + 1", "M.c + 1"},
	} {
		becomes(t, x[0], x[1])
	}
}

// H1: a WHILE whose condition is FALSE is left out of its list, wherever it stands; nothing else is.
func TestLoops(t *testing.T) {
	for _, x := range [][2]string{
		{"WHILE FALSE DO x := 1 END", ""}, {"WHILE 1 > 2 DO x := 1 END", ""}, {"WHILE FALSE & b DO END", ""}, {"WHILE ~TRUE DO END; y", "y"}, {"x; WHILE FALSE DO END; y; WHILE FALSE DO END", "x; y"},
		{"WHILE b DO x; WHILE FALSE DO y END END", "WHILE b DO x END"}, {"WHILE b & FALSE DO END", "WHILE b & FALSE DO END"}, {"WHILE TRUE DO END", "WHILE TRUE DO END"}, {"WHILE b DO END", "WHILE b DO END"},
		{"WHILE FALSE DO WHILE FALSE DO END; x END; y", "y"}, {"IF b THEN WHILE FALSE DO END ELSIF c THEN x; WHILE FALSE DO END ELSE WHILE FALSE DO END; y END", "IF b THEN ELSIF c THEN x ELSE y END"},
		{"REPEAT WHILE FALSE DO END; x; WHILE FALSE DO END UNTIL FALSE", "REPEAT x UNTIL FALSE"}, {"REPEAT UNTIL FALSE", "REPEAT UNTIL FALSE"}, {"IF FALSE THEN x END", "IF FALSE THEN x END"}, {"IF 1 > 2 THEN x ELSIF FALSE OR b THEN y END", "IF FALSE THEN x ELSIF b THEN y END"},
		{"WHILE FALSE OR b DO x := 1 + 1 END", "WHILE b DO x := 2 END"}, {"ASSERT(FALSE); RETURN", "ASSERT(FALSE); RETURN"},
	} {
		for _, around := range []string{"MODULE M; BEGIN # END M.", "MODULE M; PROCEDURE P; BEGIN # END P; END M."} {
			text := strings.ReplaceAll(around, "#", x[0])
			if got, want := tidied(t, text), written(t, tree(t, strings.ReplaceAll(around, "#", x[1]))); got != want {
				t.Errorf("%s: got\n%s; wanted\n%s", text, got, want)
			}
		}
	}
}

// op is an operator at a place.
func op(name string, at int, left, right api.Node) api.Node {
	return api.Node{Kind: api.Op, Name: name, At: at, Subs: []api.Node{left, right}}
}

func leaf(kind, num, at int) api.Node { return api.Node{Kind: kind, Num: num, At: at} }

func over(kind, at int, below ...api.Node) api.Node {
	return api.Node{Kind: kind, At: at, Subs: below}
}

// asOut is a module that puts an expression out.
func asOut(n api.Node) api.Node {
	list := func(l ...api.Node) api.Node { return api.Node{Kind: api.List, At: 900, Subs: l} }
	return api.Node{Kind: api.Module, Name: "M", At: 901, Subs: []api.Node{list(), list(), list(), list(), list(), list(over(api.Out, 902, n))}}
}

// bare is a tree whose empty lists are nil.
func bare(n api.Node) api.Node {
	var l []api.Node
	for _, x := range n.Subs {
		l = append(l, bare(x))
	}
	n.Subs = l
	return n
}

func same(a, b api.Node) bool { return reflect.DeepEqual(bare(a), bare(b)) }

// H1: what is made anew has the place of the node for which it is put; what was there keeps its own.
func TestPlaces(t *testing.T) {
	yes, no, two, three := leaf(api.True, 0, 10), leaf(api.False, 0, 11), leaf(api.Number, 2, 12), leaf(api.Number, 3, 13)
	b := api.Node{Kind: api.Ref, Name: "b", At: 14}
	for _, x := range [][2]api.Node{
		{op("+", 50, two, three), leaf(api.Number, 5, 50)}, {op("-", 50, two, three), over(api.Neg, 50, leaf(api.Number, 1, 50))},
		{op("*", 50, over(api.Neg, 20, two), three), over(api.Neg, 50, leaf(api.Number, 6, 50))}, {op("<", 50, two, three), leaf(api.True, 0, 50)}, {op(">", 50, two, three), leaf(api.False, 0, 50)},
		{over(api.Not, 50, yes), leaf(api.False, 0, 50)}, {over(api.Not, 50, no), leaf(api.True, 0, 50)}, {over(api.Neg, 50, two), over(api.Neg, 50, two)}, {over(api.Neg, 50, op("+", 51, two, three)), over(api.Neg, 50, leaf(api.Number, 5, 51))},
		{op("&", 50, yes, b), b}, {op("OR", 50, no, b), b}, {op("&", 50, no, b), no}, {op("OR", 50, yes, b), yes}, {op("&", 50, yes, no), no}, {op("OR", 50, no, yes), yes},
		{op("&", 50, op("&", 51, yes, no), b), no}, {op("OR", 50, op("OR", 51, no, yes), b), yes}, {op("&", 50, over(api.Not, 51, yes), b), leaf(api.False, 0, 51)}, {op("OR", 50, op("<", 51, two, three), b), leaf(api.True, 0, 51)}, {op("&", 50, op("&", 51, no, b), b), no}, {op("&", 50, yes, op("&", 51, no, b)), no},
		{op("&", 50, op("<", 51, two, three), op("+", 52, two, two)), leaf(api.Number, 4, 52)}, {op("DIV", 50, two, over(api.Neg, 51, three)), op("DIV", 50, two, over(api.Neg, 51, three))},
	} {
		if got := folded(t, asOut(x[0])); !same(got, asOut(x[1])) {
			t.Errorf("%v: %v, wanted %v", x[0], got.Subs[5].Subs, x[1])
		}
	}
}

// H1: FALSE and TRUE on the left of & and OR are put as they stand there, also in trees of texts.
func TestLeftAsItStands(t *testing.T) {
	for _, x := range []struct {
		expression string
		kind, at   int // the place is told from the expression's first sign on
	}{
		{"FALSE & b", api.False, 0}, {"TRUE OR b", api.True, 0}, {"(FALSE) & b", api.False, 1}, {"TRUE & FALSE & b", api.False, 7}, {"(FALSE OR TRUE) OR b", api.True, 10}, {"TRUE & TRUE & FALSE & b & b", api.False, 14},
		{"(1 > 2) & b", api.False, 1}, {"TRUE & (2 < 1) & b", api.False, 8}, {"FALSE OR ~FALSE OR b", api.True, 9}, {"FALSE & b & TRUE", api.False, 0}, {"~(TRUE & FALSE & b)", api.True, 0}, {"TRUE & (TRUE OR b)", api.True, 8},
	} {
		ahead := "MODULE M; VAR b: BOOLEAN; BEGIN b := "
		n := folded(t, tree(t, ahead+x.expression+" END M.")).Subs[5].Subs[0].Subs[1]
		if want := leaf(x.kind, 0, len(ahead)+x.at); !same(n, want) {
			t.Errorf("%s: %v, wanted %v", x.expression, n, want)
		}
	}
}

// H1: Text's ErrForm, with a zero node.
func TestErrors(t *testing.T) {
	good := tree(t, "MODULE M; VAR v: INTEGER; BEGIN v := 1 + 2 END M.")
	for _, change := range []func(*api.Node){
		func(n *api.Node) { *n = api.Node{} }, func(n *api.Node) { n.Kind = api.Kinds }, func(n *api.Node) { n.Kind = -1 }, func(n *api.Node) { n.Name = "END" }, func(n *api.Node) { n.Num = 1 }, func(n *api.Node) { n.Subs = n.Subs[:5] },
		func(n *api.Node) { n.Subs[5].Subs[0].Subs[1].Name = "?" }, func(n *api.Node) { n.Subs[5].Subs[0].Subs[1].Subs = nil }, func(n *api.Node) { n.Subs[5].Subs[0].Subs[1].Subs[0].Num = -1 }, func(n *api.Node) { n.Subs[5].Subs[0].Subs[1].Subs[0].Num = math.MaxInt },
		func(n *api.Node) { *n = n.Subs[5].Subs[0].Subs[1] },
	} {
		n := folded(t, good) // a copy that may be written into
		n.Subs[5] = tree(t, "MODULE M; BEGIN v := 1 + 2 END M.").Subs[5]
		change(&n)
		if m, err := tidy.Fold(n); err != api.ErrForm || !reflect.DeepEqual(m, api.Node{}) {
			t.Errorf("%v: %v, %v", n, m, err)
		}
	}
}

// H1: no tree is too long, nor too deep.
func TestGreatTrees(t *testing.T) {
	n := leaf(api.Number, 1, 0)
	wide := asOut(n)
	for range 1 << 16 {
		n = op("+", 7, n, leaf(api.Number, 1, 0))
		wide.Subs[5].Subs = append(wide.Subs[5].Subs, over(api.While, 0, over(api.Not, 0, leaf(api.True, 0, 0)), leaf(api.List, 0, 0)))
	}
	if got := folded(t, asOut(n)); !same(got, asOut(leaf(api.Number, 1<<16+1, 7))) {
		t.Error("a deep sum is another one")
	}
	if got := folded(t, wide); !same(got, asOut(leaf(api.Number, 1, 0))) {
		t.Error("a long list is another one")
	}
	n = api.Node{Kind: api.Ref, Name: "b"}
	for range 1 << 18 {
		n = over(api.Not, 7, n)
	}
	defer debug.SetMaxStack(debug.SetMaxStack(8 << 20))
	deep := 0
	for m := folded(t, asOut(n)).Subs[5].Subs[0].Subs[0]; m.Kind == api.Not; m = m.Subs[0] {
		deep++
	}
	if deep != 1<<18 {
		t.Errorf("%d deep", deep)
	}
}

// Z2: nothing that is handed in is written into, and what comes out shares nothing with it.
func TestKeepsNothing(t *testing.T) {
	text := "MODULE M; IMPORT A; CONST c = 1 + 2; TYPE R = RECORD (A.T) x: A.T; END; VAR v: A.T; PROCEDURE P(x: A.T): A.T; VAR y: A.T; BEGIN WHILE FALSE DO END; y[1 + x]^ := TRUE & f(x, ~FALSE) END P; BEGIN IF b THEN WHILE FALSE DO END; RETURN END END M."
	n, again := tree(t, text), tree(t, text)
	m := folded(t, n)
	if !same(n, again) {
		t.Fatal("the tree was written into")
	}
	blacken(m)
	if !same(n, again) {
		t.Fatal("the answer shares lists with the tree")
	}
	m, other := folded(t, n), folded(t, n)
	blacken(n)
	if !same(m, other) || !same(m, folded(t, again)) {
		t.Fatal("the answer shares lists with the tree")
	}
}

// blacken writes into all lists of a tree, up to their capacity, from within outward.
func blacken(n api.Node) {
	for _, x := range n.Subs {
		blacken(x)
	}
	l := n.Subs[:cap(n.Subs)]
	for i := range l {
		l[i] = api.Node{Kind: -5, Name: "black", Num: -5, At: -5}
	}
}
