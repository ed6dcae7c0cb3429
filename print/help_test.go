package print

import (
	"fmt"
	"reflect"
	"strings"
	"testing"

	"oberlin/api"
	"oberlin/parse"
)

// everything: a module that has each rule at least once.
const everything = `MODULE Every; IMPORT A, B;
CONST c* = 1 + 2 * (-3); d = ~TRUE & FALSE OR (c # 4);
TYPE P* = POINTER TO R; R* = RECORD a*: INTEGER; b: A.T; END; S = RECORD (B.R) END; Q = ARRAY 12 OF A.T;
VAR v*: INTEGER; w: A.T;
PROCEDURE None; BEGIN END None;
PROCEDURE Some*(x: INTEGER; VAR y: A.T): BOOLEAN; VAR z: INTEGER; u: P;
BEGIN z := x; RETURN z >= 3 END Some;
PROCEDURE Empty(); VAR BEGIN RETURN END Empty;
BEGIN ; v := w.a[1 + v]^{A.P}.b; None; Some(v, w);
IF v = 1 THEN NEW(w) ELSIF Some(1, w) THEN OUT(v) ELSIF v < 2 THEN ELSE GET(w[2]) END;
WHILE v <= 2 DO ASSERT(w IS A.P) END; REPEAT v := f() DIV 2 MOD 3 - NIL UNTIL v > 1;
END Every.
`

// tree of a text that must have one.
func tree(t *testing.T, text string) api.Node {
	t.Helper()
	n, err := parse.Parse(text)
	if err != nil {
		t.Fatalf("%q: %v", text, err)
	}
	return n
}

// written is the text of a tree that must have one.
func written(t *testing.T, n api.Node) string {
	t.Helper()
	s, err := Text(n)
	if err != nil {
		t.Fatalf("%v: %v", n, err)
	}
	return s
}

// placeless: a copy of a tree, all of whose places are 0, and all of whose empty lists are nil.
func placeless(n api.Node) api.Node {
	n.At = 0
	var l []api.Node
	for _, x := range n.Subs {
		l = append(l, placeless(x))
	}
	n.Subs = l
	return n
}

func same(a, b api.Node) bool { return reflect.DeepEqual(placeless(a), placeless(b)) }

// readAgain holds a tree against what is read of its text.
func readAgain(t *testing.T, n api.Node, s string) {
	t.Helper()
	again, err := parse.Parse(s)
	if err != nil {
		t.Fatalf("%s: %v", s, err)
	}
	if !same(n, again) {
		t.Fatalf("%s\nis read as\n%v, not\n%v", s, placeless(again), placeless(n))
	}
}

// checkLines: what is written of a text's tree, line by line; and that it is read as that tree.
func checkLines(t *testing.T, text string, lines ...string) {
	t.Helper()
	n := tree(t, text)
	s := written(t, n)
	if want := strings.Join(lines, "\n") + "\n"; s != want {
		t.Errorf("%q:\ngot\n%swant\n%s", text, s, want)
	}
	readAgain(t, n, s)
}

// checkActs likewise, of a module's acts.
func checkActs(t *testing.T, acts string, lines ...string) {
	t.Helper()
	lines = append([]string{"MODULE M;", "BEGIN"}, lines...)
	checkLines(t, "MODULE M; BEGIN "+acts+" END M.", append(lines, "END M.")...)
}

// refuses: Text has this bare error, and no text.
func refuses(t *testing.T, what string, n api.Node, want api.Errno) {
	t.Helper()
	if s, err := Text(n); s != "" || err != error(want) {
		t.Errorf("%s: %.60q, %v, not %v", what, s, err, want)
	}
	if Formed(n) == (want == api.ErrForm) {
		t.Errorf("%s: formed: %v", what, Formed(n))
	}
}

// at is the node to which a way leads, in a tree that may be written into.
func at(n *api.Node, way ...int) *api.Node {
	for _, i := range way {
		n = &n.Subs[i]
	}
	return n
}

// deepCopy shares no list with what it is a copy of.
func deepCopy(n api.Node) api.Node {
	l := make([]api.Node, 0, len(n.Subs))
	for _, x := range n.Subs {
		l = append(l, deepCopy(x))
	}
	n.Subs = l
	return n
}

// ways to all nodes of a tree.
func ways(n api.Node) [][]int {
	l := [][]int{nil}
	for i, x := range n.Subs {
		for _, w := range ways(x) {
			l = append(l, append([]int{i}, w...))
		}
	}
	return l
}

// withAct: a module with one act.
func withAct(n api.Node) api.Node {
	list := func(l ...api.Node) api.Node { return api.Node{Kind: api.List, Subs: l} }
	return api.Node{Kind: api.Module, Name: "M", Subs: []api.Node{list(), list(), list(), list(), list(), list(n)}}
}

func withExpression(n api.Node) api.Node {
	return withAct(api.Node{Kind: api.Out, Subs: []api.Node{n}})
}

func ref(name string) api.Node { return api.Node{Kind: api.Ref, Name: name} }

func tellWay(n api.Node, way []int) string {
	return fmt.Sprintf("node %v of kind %d", way, at(&n, way...).Kind)
}
