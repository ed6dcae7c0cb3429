package print

import (
	"math"
	"runtime/debug"
	"strings"
	"testing"

	"oberlin/api"
)

// change of a node that is a tree's.
type change func(*api.Node)

func named(s string) change   { return func(n *api.Node) { n.Name = s } }
func numbered(i int) change   { return func(n *api.Node) { n.Num = i } }
func ofKind(k int) change     { return func(n *api.Node) { n.Kind = k } }
func without(n *api.Node)     { n.Subs = n.Subs[:len(n.Subs)-1] }
func withOneMore(n *api.Node) { n.Subs = append(n.Subs, ref("x")) }
func withoutAny(n *api.Node)  { n.Subs = nil }
func withTypeName(n *api.Node) {
	n.Subs = append(n.Subs, api.Node{Kind: api.TypeName, Name: "T"})
}
func withList(n *api.Node)  { n.Subs = append(n.Subs, api.Node{Kind: api.List}) }
func withNone(n *api.Node)  { n.Subs = append(n.Subs, api.Node{}) }
func swapped(n *api.Node)   { n.Subs[0], n.Subs[1] = n.Subs[1], n.Subs[0] }
func asListed(n *api.Node)  { *n = api.Node{Kind: api.List, Subs: []api.Node{*n}} }
func asNegated(n *api.Node) { *n = api.Node{Kind: api.Neg, Subs: []api.Node{*n}} }

// hasNoName: kinds of nodes that a text names nothing.
func hasNoName(kind int) bool {
	switch kind {
	case api.Module, api.Import, api.Const, api.Named, api.Var, api.Proc, api.Param, api.Field, api.TypeName, api.Ref, api.Dot, api.Op:
		return false
	}
	return true
}

// C1: names are names, and stand just where a text has some; an operator's is one of the operators.
func TestNames(t *testing.T) {
	whole := tree(t, everything)
	wrong := []string{"", "1a", "a_b", "END", "NIL", "é", "a b", "abcdefghijklm", "a\x00", " a", "a.b", "+-", "=="}
	for _, way := range ways(whole) {
		kind := at(&whole, way...).Kind
		for _, name := range append(wrong, "x", "+", "abcdefghijkl") {
			operator := name == "+"
			isWrong := !operator && name != "x" && name != "abcdefghijkl"
			n := deepCopy(whole)
			at(&n, way...).Name = name
			switch {
			case hasNoName(kind) && name != "", !hasNoName(kind) && (isWrong || operator != (kind == api.Op)):
				refuses(t, tellWay(n, way)+" named "+name, n, api.ErrForm)
			default:
				readAgain(t, n, written(t, n))
			}
		}
	}
}

// mostNum: the greatest number that a node at a place may have.
func mostNum(n api.Node, way []int) int {
	local := len(way) == 4 && way[0] == 4 && way[2] == 2
	switch n.Kind {
	case api.Number, api.Array:
		return api.MaxNumber
	case api.Const, api.Named, api.Proc, api.Param, api.Field:
		return 1
	case api.Var:
		if !local {
			return 1
		}
	}
	return 0
}

// C1: numbers 0 to MaxNumber; of what may be exported, and of parameters, 0 or 1; else none. (An IF's is told apart.)
func TestNumbers(t *testing.T) {
	whole := tree(t, everything)
	for _, way := range ways(whole) {
		x := *at(&whole, way...)
		if x.Kind == api.If {
			continue
		}
		most := mostNum(x, way)
		for _, num := range []int{math.MinInt, math.MinInt32, -1, 0, 1, 2, api.MaxNumber, api.MaxNumber + 1, math.MaxInt} {
			n := deepCopy(whole)
			at(&n, way...).Num = num
			if num < 0 || num > most {
				refuses(t, tellWay(n, way)+" with a number", n, api.ErrForm)
			} else {
				readAgain(t, n, written(t, n))
			}
		}
	}
}

// C1: an IF has conditions and lists in turn, at least one of each, and its number tells whether there is a list more.
func TestChoices(t *testing.T) {
	acts := api.Node{Kind: api.List}
	for _, c := range []struct {
		num  int
		subs []api.Node
		ok   bool
	}{
		{0, []api.Node{ref("a"), acts}, true},
		{1, []api.Node{ref("a"), acts, acts}, true},
		{0, []api.Node{ref("a"), acts, ref("b"), acts}, true},
		{1, []api.Node{ref("a"), acts, ref("b"), acts, acts}, true},
		{0, nil, false},
		{1, []api.Node{acts}, false},
		{0, []api.Node{ref("a")}, false},
		{1, []api.Node{ref("a")}, false},
		{1, []api.Node{ref("a"), acts}, false},
		{0, []api.Node{ref("a"), acts, acts}, false},
		{1, []api.Node{ref("a"), acts, ref("b"), acts}, false},
		{0, []api.Node{ref("a"), acts, ref("b")}, false},
		{1, []api.Node{ref("a"), acts, ref("b")}, false},
		{0, []api.Node{acts, ref("a")}, false},
		{0, []api.Node{ref("a"), ref("b")}, false},
		{0, []api.Node{acts, acts}, false},
		{1, []api.Node{acts, acts, acts}, false},
		{2, []api.Node{ref("a"), acts}, false},
		{-1, []api.Node{ref("a"), acts, acts}, false},
		{3, []api.Node{ref("a"), acts, acts}, false},
	} {
		n := withAct(api.Node{Kind: api.If, Num: c.num, Subs: c.subs})
		if c.ok {
			readAgain(t, n, written(t, n))
		} else {
			refuses(t, "an IF", n, api.ErrForm)
		}
	}
}

// C1: whatever is changed of a tree: it is refused, or what is written is read as the changed tree.
func TestChangedTrees(t *testing.T) {
	whole := tree(t, everything)
	changes := []change{without, withoutAny, withOneMore, withTypeName, withList, withNone, swapped, asListed, asNegated, numbered(1), numbered(0), named("x"), named("")}
	for k := -1; k <= api.Kinds+1; k++ {
		changes = append(changes, ofKind(k))
	}
	refused := 0
	for _, way := range ways(whole) {
		for _, c := range changes {
			n := deepCopy(whole)
			x := at(&n, way...)
			if len(x.Subs) < 2 {
				x.Subs = append(x.Subs, make([]api.Node, 2)...)[:len(x.Subs):len(x.Subs)]
			}
			if !try(x, c) {
				continue
			}
			s, err := Text(n)
			if err == nil {
				readAgain(t, n, s)
				continue
			}
			if refused++; s != "" || err != error(api.ErrForm) {
				t.Fatalf("%s: %q, %v", tellWay(n, way), s, err)
			}
		}
	}
	if refused < 5000 {
		t.Errorf("only %d trees were refused", refused)
	}
}

// try: could the change be made?
func try(n *api.Node, c change) (ok bool) {
	defer func() { ok = recover() == nil }()
	c(n)
	return
}

// C1: trees that no text has, by what is wrong with them.
func TestTreesOfNoText(t *testing.T) {
	typeName := api.Node{Kind: api.TypeName, Name: "T"}
	for what, n := range map[string]api.Node{
		"nothing":                    {},
		"a list":                     {Kind: api.List},
		"a name":                     ref("x"),
		"an act":                     {Kind: api.Return},
		"a kind below all":           {Kind: -1},
		"a kind above all":           {Kind: api.Kinds},
		"a module without parts":     {Kind: api.Module, Name: "M"},
		"a module within a module":   withAct(withAct(ref("x"))),
		"an expression as an act":    withAct(ref("x")),
		"a call as an act":           withAct(api.Node{Kind: api.Call, Subs: []api.Node{ref("f")}}),
		"an act as an expression":    withExpression(api.Node{Kind: api.Do, Subs: []api.Node{ref("f")}}),
		"a type name as an act":      withAct(typeName),
		"a type name as a part":      withExpression(typeName),
		"nothing as an act":          withAct(api.Node{}),
		"nothing as an expression":   withExpression(api.Node{}),
		"a list as an act":           withAct(api.Node{Kind: api.List}),
		"a number that is assigned":  withAct(api.Node{Kind: api.Assign, Subs: []api.Node{{Kind: api.Number}, ref("x")}}),
		"a call that is assigned":    withAct(api.Node{Kind: api.Assign, Subs: []api.Node{{Kind: api.Call, Subs: []api.Node{ref("f")}}, ref("x")}}),
		"a number that is called":    withExpression(api.Node{Kind: api.Call, Subs: []api.Node{{Kind: api.Number}}}),
		"a call that is called":      withAct(api.Node{Kind: api.Do, Subs: []api.Node{{Kind: api.Call, Subs: []api.Node{ref("f")}}}}),
		"a part of a number":         withExpression(api.Node{Kind: api.Dot, Name: "a", Subs: []api.Node{{Kind: api.Number}}}),
		"a place of a call":          withExpression(api.Node{Kind: api.Index, Subs: []api.Node{{Kind: api.Call, Subs: []api.Node{ref("f")}}, ref("x")}}),
		"what a sum points to":       withExpression(api.Node{Kind: api.Deref, Subs: []api.Node{{Kind: api.Neg, Subs: []api.Node{ref("x")}}}}),
		"a guard of NIL":             withExpression(api.Node{Kind: api.Guard, Subs: []api.Node{{Kind: api.Nil}, typeName}}),
		"a guard by a name":          withExpression(api.Node{Kind: api.Guard, Subs: []api.Node{ref("x"), ref("T")}}),
		"IS by a name":               withExpression(api.Node{Kind: api.Is, Subs: []api.Node{ref("x"), ref("T")}}),
		"IS by a type name of three": withExpression(api.Node{Kind: api.Is, Subs: []api.Node{ref("x"), {Kind: api.TypeName, Name: "T", Subs: []api.Node{ref("A"), ref("B")}}}}),
		"IS by a type of a type":     withExpression(api.Node{Kind: api.Is, Subs: []api.Node{ref("x"), {Kind: api.TypeName, Name: "T", Subs: []api.Node{typeName}}}}),
		"a new number":               withAct(api.Node{Kind: api.New, Subs: []api.Node{{Kind: api.Number}}}),
		"GET of a call":              withAct(api.Node{Kind: api.Get, Subs: []api.Node{{Kind: api.Call, Subs: []api.Node{ref("f")}}}}),
		"OUT of two":                 withAct(api.Node{Kind: api.Out, Subs: []api.Node{ref("x"), ref("y")}}),
		"ASSERT of none":             withAct(api.Node{Kind: api.Assert}),
		"RETURN of two":              withAct(api.Node{Kind: api.Return, Subs: []api.Node{ref("x"), ref("y")}}),
		"an operator of one part":    withExpression(api.Node{Kind: api.Op, Name: "+", Subs: []api.Node{ref("x")}}),
		"an operator of three":       withExpression(api.Node{Kind: api.Op, Name: "+", Subs: []api.Node{ref("x"), ref("y"), ref("z")}}),
		"IS as an operator":          withExpression(api.Node{Kind: api.Op, Name: "IS", Subs: []api.Node{ref("x"), ref("y")}}),
		"~ as an operator":           withExpression(api.Node{Kind: api.Op, Name: "~", Subs: []api.Node{ref("x"), ref("y")}}),
		":= as an operator":          withExpression(api.Node{Kind: api.Op, Name: ":=", Subs: []api.Node{ref("x"), ref("y")}}),
	} {
		refuses(t, what, n, api.ErrForm)
	}
}

// C1: At is not looked at.
func TestPlacesDontMatter(t *testing.T) {
	whole := tree(t, everything)
	want := written(t, whole)
	for _, place := range []int{0, -1, math.MaxInt, math.MinInt} {
		n := deepCopy(whole)
		for _, way := range ways(n) {
			at(&n, way...).At = place
		}
		if s := written(t, n); s != want {
			t.Errorf("all places %d: %s", place, s)
		}
	}
}

// long: a module with a text of so many bytes.
func long(size int) api.Node {
	var acts []api.Node
	bytes := len("MODULE M;\nBEGIN\n  NEW(a)\nEND M.\n")
	last := api.Node{Kind: api.New, Subs: []api.Node{ref("a")}}
	for ; bytes+len("  a;\n")+len("aaaaa") <= size; bytes += len("  a;\n") {
		acts = append(acts, api.Node{Kind: api.Do, Subs: []api.Node{ref("a")}})
	}
	last.Subs[0].Name = strings.Repeat("a", 1+size-bytes)
	n := withAct(last)
	n.Subs[5].Subs = append(acts, last)
	return n
}

// C1: a text may have MaxText bytes, not one more; but a tree that no text has is told first.
func TestLongTexts(t *testing.T) {
	for size := api.MaxText - 9; size <= api.MaxText+9; size++ {
		n := long(size)
		if size > api.MaxText {
			refuses(t, "a long text", n, api.ErrLimit)
			n.Subs[0].Num = 1
			refuses(t, "a long text's tree, but for one number", n, api.ErrForm)
			continue
		}
		s := written(t, n)
		if len(s) != size {
			t.Errorf("%d bytes, not %d", len(s), size)
		}
		readAgain(t, n, s)
	}
}

// C1: blanks ahead of lines count, too: what was read may be too long when it is written.
func TestTextsThatGrow(t *testing.T) {
	text := "MODULE M; BEGIN " + strings.Repeat("WHILE a DO ", 18) + strings.Repeat("b;", 150) + strings.Repeat(" END", 18) + " END M."
	refuses(t, "what was read", tree(t, text), api.ErrLimit)
}

// wraps: ways in which a node is made a part of a greater one, whereof trees as deep as one likes are made.
func wraps() map[string]func(api.Node) api.Node {
	x, typeName := ref("x"), api.Node{Kind: api.TypeName, Name: "T"}
	under := func(kind int, name string, ahead []api.Node, behind ...api.Node) func(api.Node) api.Node {
		return func(n api.Node) api.Node {
			return api.Node{Kind: kind, Name: name, Subs: append(append(append([]api.Node{}, ahead...), n), behind...)}
		}
	}
	return map[string]func(api.Node) api.Node{
		"~": under(api.Not, "", nil), "-": under(api.Neg, "", nil), "IS": under(api.Is, "", nil, typeName),
		"left of +": under(api.Op, "+", nil, x), "right of +": under(api.Op, "+", []api.Node{x}), "left of =": under(api.Op, "=", nil, x),
		"an argument": under(api.Call, "", []api.Node{x}), "an index": under(api.Index, "", []api.Node{x}),
	}
}

// C1: trees may be deeper than any text's, and than calls can be: too long for a text, but none that no text has; what is wrong at their bottom is told.
func TestDeepTrees(t *testing.T) {
	// So little is left for calls within each other that going down these trees by calls would not go unseen.
	defer debug.SetMaxStack(debug.SetMaxStack(8 << 20))
	const deep = 100000
	for what, wrap := range wraps() {
		for bottom, want := range map[string]api.Errno{"x": api.ErrLimit, "END": api.ErrForm} {
			n := ref(bottom)
			for range deep {
				n = wrap(n)
			}
			refuses(t, "deep: "+what, withExpression(n), want)
		}
	}
}

// C1: deep designators and lists of acts likewise.
func TestDeepActs(t *testing.T) {
	defer debug.SetMaxStack(debug.SetMaxStack(8 << 20))
	for bottom, want := range map[string]api.Errno{"x": api.ErrLimit, "END": api.ErrForm} {
		d, a := ref(bottom), api.Node{Kind: api.Do, Subs: []api.Node{ref(bottom)}}
		for range 100000 {
			d = api.Node{Kind: api.Deref, Subs: []api.Node{d}}
			a = api.Node{Kind: api.While, Subs: []api.Node{ref("x"), {Kind: api.List, Subs: []api.Node{a}}}}
		}
		refuses(t, "a deep designator", withAct(api.Node{Kind: api.New, Subs: []api.Node{d}}), want)
		refuses(t, "deep acts", withAct(a), want)
	}
}

// C1: a tree may be deeper than any text's, as long as its text is not too long; it is only Parse that refuses that.
func TestDeeperThanTexts(t *testing.T) {
	n := ref("x")
	for range 3 * api.MaxDeep {
		n = api.Node{Kind: api.Neg, Subs: []api.Node{n}}
	}
	want := "MODULE M;\nBEGIN\n  OUT(" + strings.Repeat("-(", 3*api.MaxDeep-1) + "-x" + strings.Repeat(")", 3*api.MaxDeep) + "\nEND M.\n"
	if s := written(t, withExpression(n)); s != want {
		t.Errorf("%s, not %s", s, want)
	}
	n = ref("x")
	for range 3 * api.MaxDeep {
		n = api.Node{Kind: api.Op, Name: "-", Subs: []api.Node{n, ref("y")}}
	}
	want = "MODULE M;\nBEGIN\n  OUT(x" + strings.Repeat(" - y", 3*api.MaxDeep) + ")\nEND M.\n"
	if s := written(t, withExpression(n)); s != want {
		t.Errorf("%s, not %s", s, want)
	}
}

// Z2: neither are lists written into, nor is what stands behind them read.
func TestListsStay(t *testing.T) {
	whole := tree(t, everything)
	n := deepCopy(whole)
	for _, way := range ways(n) {
		x := at(&n, way...)
		spare := append(append([]api.Node{}, x.Subs...), api.Node{Kind: api.Module, Name: "behind"})
		x.Subs = spare[:len(x.Subs)]
	}
	if written(t, n) != written(t, whole) {
		t.Error("what stands behind a list is read")
	}
	if !same(n, whole) {
		t.Error("a list is written into")
	}
	for _, way := range ways(n) {
		x := at(&n, way...)
		if y := x.Subs[:len(x.Subs)+1][len(x.Subs)]; y.Kind != api.Module || y.Name != "behind" {
			t.Errorf("%s: written behind its list", tellWay(n, way))
		}
	}
}
