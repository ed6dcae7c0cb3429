package parse

import (
	"fmt"
	"strings"
	"testing"

	"oberlin/api"
)

// kindWords: how kinds of nodes are told in these tests, in api's order.
var kindWords = strings.Fields("None List Module Import Const Named Var Proc Param Array Record Field Pointer TypeName Assign Do If While Repeat Return New Out Get Assert Ref Dot Index Deref Guard Number True False Nil Call Not Neg Op Is")

// tellNode: kind, name, number (unless 0), place (less what stands ahead of the part that is looked at), what is below.
func tellNode(n api.Node, ahead int) string {
	s := kindWords[n.Kind]
	if n.Name != "" {
		s += " " + n.Name
	}
	if n.Num != 0 {
		s += fmt.Sprintf(" %d", n.Num)
	}
	s += fmt.Sprintf("@%d", n.At-ahead)
	if len(n.Subs) == 0 {
		return s
	}
	var l []string
	for _, x := range n.Subs {
		l = append(l, tellNode(x, ahead))
	}
	return s + "[" + strings.Join(l, ", ") + "]"
}

// good is the tree of a text that must have one.
func good(t *testing.T, text string) api.Node {
	t.Helper()
	n, err := Parse(text)
	if err != nil {
		t.Fatalf("%q: %v", text, err)
	}
	return n
}

// frame: a text around a part, and the way down to the part's node.
type frame struct {
	ahead, behind string
	way           []int
}

var (
	wholeText   = frame{}
	anImports   = frame{"MODULE M; ", " END M.", []int{0}}
	someConsts  = frame{"MODULE M; ", " END M.", []int{1}}
	someTypes   = frame{"MODULE M; ", " END M.", []int{2}}
	someVars    = frame{"MODULE M; ", " END M.", []int{3}}
	someProcs   = frame{"MODULE M; ", " END M.", []int{4}}
	bodyOf      = frame{"MODULE M; BEGIN ", " END M.", []int{5}}
	actOf       = frame{"MODULE M; BEGIN ", " END M.", []int{5, 0}}
	exprOf      = frame{"MODULE M; BEGIN OUT(", ") END M.", []int{5, 0, 0}}
	typeOf      = frame{"MODULE M; TYPE T = ", "; END M.", []int{2, 0, 0}}
	procBodyOf  = frame{"MODULE M; PROCEDURE P; BEGIN ", " END P; END M.", []int{4, 0, 3}}
	designators = frame{"MODULE M; BEGIN NEW(", ") END M.", []int{5, 0, 0}}
)

func (f frame) text(part string) string { return f.ahead + part + f.behind }

// tree: what a part's node is told as, with places that are counted from the part's first byte on.
func (f frame) tree(t *testing.T, part string) string {
	t.Helper()
	n := good(t, f.text(part))
	for _, i := range f.way {
		n = n.Subs[i]
	}
	return tellNode(n, len(f.ahead))
}

type treeCase struct{ part, want string }

func (f frame) checkTrees(t *testing.T, cases []treeCase) {
	t.Helper()
	for _, c := range cases {
		if got := f.tree(t, c.part); got != c.want {
			t.Errorf("%q:\n got %s\nwant %s", c.part, got, c.want)
		}
	}
}

// wrongCase: a part, what is wrong with it, and where (counted from the part's first byte on).
type wrongCase struct {
	part string
	err  api.Errno
	at   int
}

func (f frame) checkWrong(t *testing.T, cases []wrongCase) {
	t.Helper()
	for _, c := range cases {
		n, err := Parse(f.text(c.part))
		e, text, at := api.Tell(err)
		if e != c.err || text != 0 || at != c.at+len(f.ahead) {
			t.Errorf("%q: error %d in %d at %d, not %d at %d", c.part, e, text, at-len(f.ahead), c.err, c.at)
		}
		if tellNode(n, 0) != "None@0" {
			t.Errorf("%q: a tree with an error: %s", c.part, tellNode(n, 0))
		}
	}
}
