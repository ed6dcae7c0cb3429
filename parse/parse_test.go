package parse

import (
	"fmt"
	"strings"
	"testing"

	"oberlin/api"
	"oberlin/scan"
)

// everything: a module that has each rule at least once.
const everything = `MODULE Every; IMPORT A, B;
CONST c* = 1 + 2 * (-3); d = ~TRUE & FALSE OR (c # 4);
TYPE P* = POINTER TO R; R* = RECORD a*: INTEGER; b: A.T; END; S = RECORD (B.R) END; Q = ARRAY 12 OF A.T;
VAR v*: INTEGER; w: A.T;
PROCEDURE None; BEGIN END None;
PROCEDURE Some*(x: INTEGER; VAR y: A.T): BOOLEAN; VAR z: INTEGER; u: P;
BEGIN z := x; RETURN z >= 3 END Some;
PROCEDURE Empty(); VAR BEGIN RETURN END Empty;
BEGIN ; v := w.a[1 + v]^{A.P}.b; None; Some(v, w);
IF v = 1 THEN NEW(w) ELSIF Some(1, w) THEN OUT(v) ELSIF v < 2 THEN ELSE GET(w[2]) END;
WHILE v <= 2 DO ASSERT(w IS A.P) END; REPEAT v := f() DIV 2 MOD 3 - NIL UNTIL v > 1;
END Every.
`

// B1: what Tokens says comes first.
func TestWhatTokensSays(t *testing.T) {
	for _, text := range []string{"THEN !", "MODULE M; (* END M.", "abcdefghijklm", "MODULE M; CONST a = 2147483648; END M.", strings.Repeat(" ", api.MaxText+1)} {
		_, want := scan.Tokens(text)
		n, err := Parse(text)
		if want == nil || fmt.Sprint(err) != fmt.Sprint(want) || tellNode(n, 0) != "None@0" {
			t.Errorf("%.40q: %v, not %v", text, err, want)
		}
	}
	if _, err := Parse(strings.Repeat(" ", api.MaxText+1)); err != error(api.ErrLimit) {
		t.Errorf("a text of more than MaxText bytes: %v is no bare error", err)
	}
}

// B1: the document's examples.
func TestExamples(t *testing.T) {
	wholeText.checkWrong(t, []wrongCase{{"MODULE M; BEGIN x := 1 + END M.", api.ErrWord, 25}})
	n := good(t, "MODULE M; BEGIN x := (1 + 2) END M.")
	want := "Assign@16[Ref x@16, Op +@22[Number 1@22, Number 2@26]]"
	if got := tellNode(n.Subs[5].Subs[0], 0); got != want {
		t.Errorf("%s, not %s", got, want)
	}
}

// B1: the END of the text where more is wanted: at each word of a text that is cut ahead of it.
func TestTextsThatEndTooEarly(t *testing.T) {
	tokens, err := scan.Tokens(everything)
	if err != nil {
		t.Fatal(err)
	}
	good(t, everything)
	for _, x := range tokens[:len(tokens)-1] {
		wholeText.checkWrong(t, []wrongCase{{everything[:x.At], api.ErrShort, x.At}})
	}
	wholeText.checkWrong(t, []wrongCase{
		{"", api.ErrShort, 0},
		{" \n (* *)", api.ErrShort, 8},
		{"MODULE", api.ErrShort, 6},
		{"MODULE M; BEGIN RETURN", api.ErrShort, 22},
		{"MODULE M; BEGIN f(", api.ErrShort, 18},
		{"MODULE M; END M", api.ErrShort, 15},
	})
}

// B1: no word may stand behind a module.
func TestWordsBehindModule(t *testing.T) {
	wholeText.checkWrong(t, []wrongCase{
		{"MODULE M; END M. x", api.ErrWord, 17},
		{"MODULE M; END M..", api.ErrWord, 16},
		{"MODULE M; END M. MODULE N; END N.", api.ErrWord, 17},
	})
	good(t, "MODULE M; END M. (* a comment *) \n")
}

// B1, B3: a module's lists, empty and full, and their places.
func TestModules(t *testing.T) {
	wholeText.checkTrees(t, []treeCase{
		{"MODULE M; END M.", "Module M@0[List@10, List@10, List@10, List@10, List@10, List@10]"},
		{" MODULE M;BEGIN END M.", "Module M@1[List@10, List@10, List@10, List@10, List@10, List@16]"},
		{"MODULE M; CONST TYPE VAR BEGIN END M.", "Module M@0[List@10, List@10, List@16, List@21, List@25, List@31]"},
		{"MODULE M; VAR x: T; BEGIN x END M.", "Module M@0[List@10, List@10, List@10, List@10[Var x@14[TypeName T@17]], List@20, List@26[Do@26[Ref x@26]]]"},
		{"MODULE M; IMPORT A; PROCEDURE P; BEGIN END P; END M.", "Module M@0[List@10[Import A@17], List@20, List@20, List@20, List@20[Proc P@20[List@31, None@31, List@33, List@39]], List@46]"},
	})
}

// B2: what a module is made of, in its order.
func TestWrongModules(t *testing.T) {
	wholeText.checkWrong(t, []wrongCase{
		{"module M; END M.", api.ErrWord, 0},
		{"MODULE 1; END M.", api.ErrWord, 7},
		{"MODULE END; END END.", api.ErrWord, 7},
		{"MODULE M END M.", api.ErrWord, 9},
		{"MODULE M; END N.", api.ErrWord, 14},
		{"MODULE M; END m.", api.ErrWord, 14},
		{"MODULE M; END M;", api.ErrWord, 15},
		{"MODULE M*; END M.", api.ErrWord, 8},
		{"MODULE M; x := 1 END M.", api.ErrWord, 10},
		{"MODULE M; TYPE CONST END M.", api.ErrWord, 15},
		{"MODULE M; VAR IMPORT A; END M.", api.ErrWord, 14},
		{"MODULE M; PROCEDURE P; BEGIN END P; VAR END M.", api.ErrWord, 36},
		{"MODULE M; BEGIN PROCEDURE P; BEGIN END P; END M.", api.ErrWord, 16},
		{"MODULE M; BEGIN BEGIN END M.", api.ErrWord, 16},
	})
}

// B2, B3: imports.
func TestImports(t *testing.T) {
	anImports.checkTrees(t, []treeCase{
		{"IMPORT A;", "List@0[Import A@7]"},
		{"IMPORT A, B,C ;", "List@0[Import A@7, Import B@10, Import C@12]"},
	})
	anImports.checkWrong(t, []wrongCase{
		{"IMPORT ;", api.ErrWord, 7},
		{"IMPORT A B;", api.ErrWord, 9},
		{"IMPORT A, ;", api.ErrWord, 10},
		{"IMPORT A.B;", api.ErrWord, 8},
		{"IMPORT A*;", api.ErrWord, 8},
		{"IMPORT A; IMPORT B;", api.ErrWord, 10},
		{"IMPORT A", api.ErrWord, 9},
		{"IMPORT 1;", api.ErrWord, 7},
	})
}

// B2, B3: constants, what is exported.
func TestConstants(t *testing.T) {
	someConsts.checkTrees(t, []treeCase{
		{"CONST", "List@0"},
		{"CONST a = 1; b* = a;", "List@0[Const a@6[Number 1@10], Const b 1@13[Ref a@18]]"},
		{"CONST a*=(1);", "List@0[Const a 1@6[Number 1@10]]"},
	})
	someConsts.checkWrong(t, []wrongCase{
		{"CONST a := 1;", api.ErrWord, 8},
		{"CONST a = ;", api.ErrWord, 10},
		{"CONST a = 1", api.ErrWord, 12},
		{"CONST a** = 1;", api.ErrWord, 8},
		{"CONST *a = 1;", api.ErrWord, 6},
		{"CONST IF = 1;", api.ErrWord, 6},
		{"CONST a = 1;;", api.ErrWord, 12},
	})
}

// B2, B3: types and their declarations.
func TestTypes(t *testing.T) {
	someTypes.checkTrees(t, []treeCase{
		{"TYPE", "List@0"},
		{"TYPE A = ARRAY 3 OF B; C* = POINTER TO D;", "List@0[Named A@5[Array 3@9[TypeName B@20]], Named C 1@23[Pointer@28[TypeName D@39]]]"},
	})
	typeOf.checkTrees(t, []treeCase{
		{"ARRAY 0 OF T", "Array@0[TypeName T@11]"},
		{"ARRAY 0012 OF M.T", "Array 12@0[TypeName T@14[Ref M@14]]"},
		{"ARRAY 2147483647 OF T", "Array 2147483647@0[TypeName T@20]"},
		{"POINTER TO M . T", "Pointer@0[TypeName T@11[Ref M@11]]"},
		{"RECORD END", "Record@0[None@7]"},
		{"RECORD (B) END", "Record@0[TypeName B@8]"},
		{"RECORD (M.B) a: T; b*: M.U; END", "Record@0[TypeName B@8[Ref M@8], Field a@13[TypeName T@16], Field b 1@19[TypeName U@23[Ref M@23]]]"},
		{"RECORD a: T; END", "Record@0[None@7, Field a@7[TypeName T@10]]"},
	})
}

func TestWrongTypes(t *testing.T) {
	typeOf.checkWrong(t, []wrongCase{
		{"", api.ErrWord, 0},
		{"INTEGER", api.ErrWord, 0},
		{"ARRAY OF T", api.ErrWord, 6},
		{"ARRAY n OF T", api.ErrWord, 6},
		{"ARRAY -1 OF T", api.ErrWord, 6},
		{"ARRAY 3, 4 OF T", api.ErrWord, 7},
		{"ARRAY 3 T", api.ErrWord, 8},
		{"ARRAY 3 OF ARRAY 4 OF T", api.ErrWord, 11},
		{"POINTER T", api.ErrWord, 8},
		{"POINTER TO RECORD END", api.ErrWord, 11},
		{"POINTER TO a.b.c", api.ErrWord, 14},
		{"POINTER TO a.1", api.ErrWord, 13},
		{"RECORD () END", api.ErrWord, 8},
		{"RECORD (A, B) END", api.ErrWord, 9},
		{"RECORD a: T END", api.ErrWord, 12},
		{"RECORD a, b: T; END", api.ErrWord, 8},
		{"RECORD a = T; END", api.ErrWord, 9},
		{"RECORD a: T; ; END", api.ErrWord, 13},
		{"RECORD a: T;", api.ErrWord, 12},
		{"RECORD", api.ErrWord, 6},
	})
}

// B2, B3: variables.
func TestVariables(t *testing.T) {
	someVars.checkTrees(t, []treeCase{
		{"VAR", "List@0"},
		{"VAR a: T; b*: M.T;", "List@0[Var a@4[TypeName T@7], Var b 1@10[TypeName T@14[Ref M@14]]]"},
	})
	someVars.checkWrong(t, []wrongCase{
		{"VAR a: ARRAY 3 OF T;", api.ErrWord, 7},
		{"VAR a, b: T;", api.ErrWord, 5},
		{"VAR a T;", api.ErrWord, 6},
		{"VAR a: ;", api.ErrWord, 7},
		{"VAR a: T", api.ErrWord, 9},
		{"VAR a: T. ;", api.ErrWord, 10},
	})
}

// B2, B3: procedures, their four parts, and their places.
func TestProcedures(t *testing.T) {
	someProcs.checkTrees(t, []treeCase{
		{"PROCEDURE P; BEGIN END P;", "List@0[Proc P@0[List@11, None@11, List@13, List@19]]"},
		{"PROCEDURE P*(); BEGIN END P;", "List@0[Proc P 1@0[List@12, None@14, List@16, List@22]]"},
		{"PROCEDURE P(a: T; VAR b: M.T): M.U; VAR c: T; d: T; BEGIN c END P;", "List@0[Proc P@0[List@11[Param a@12[TypeName T@15], Param b 1@18[TypeName T@25[Ref M@25]]], TypeName U@31[Ref M@31], List@36[Var c@40[TypeName T@43], Var d@46[TypeName T@49]], List@58[Do@58[Ref c@58]]]]"},
		{"PROCEDURE P: T; VAR BEGIN END P; PROCEDURE Q; BEGIN END Q;", "List@0[Proc P@0[List@11, TypeName T@13, List@16, List@26], Proc Q@33[List@44, None@44, List@46, List@52]]"},
	})
}

func TestWrongProcedures(t *testing.T) {
	someProcs.checkWrong(t, []wrongCase{
		{"PROCEDURE ; BEGIN END P;", api.ErrWord, 10},
		{"PROCEDURE P BEGIN END P;", api.ErrWord, 12},
		{"PROCEDURE P; END P;", api.ErrWord, 13},
		{"PROCEDURE P; BEGIN END;", api.ErrWord, 22},
		{"PROCEDURE P; BEGIN END Q;", api.ErrWord, 23},
		{"PROCEDURE P; BEGIN END P", api.ErrWord, 25},
		{"PROCEDURE P; VAR c*: T; BEGIN END P;", api.ErrWord, 18},
		{"PROCEDURE P; CONST c = 1; BEGIN END P;", api.ErrWord, 13},
		{"PROCEDURE P; PROCEDURE Q; BEGIN END Q; BEGIN END P;", api.ErrWord, 13},
		{"PROCEDURE P(a: T;); BEGIN END P;", api.ErrWord, 17},
		{"PROCEDURE P(a: T, b: T); BEGIN END P;", api.ErrWord, 16},
		{"PROCEDURE P(a, b: T); BEGIN END P;", api.ErrWord, 13},
		{"PROCEDURE P(a*: T); BEGIN END P;", api.ErrWord, 13},
		{"PROCEDURE P(VAR); BEGIN END P;", api.ErrWord, 15},
		{"PROCEDURE P(a: T; BEGIN END P;", api.ErrWord, 18},
		{"PROCEDURE P(): ; BEGIN END P;", api.ErrWord, 15},
		{"PROCEDURE P(): ARRAY 3 OF T; BEGIN END P;", api.ErrWord, 15},
	})
}

// B2, B3: acts in their lists: where none stands, and between which signs.
func TestActLists(t *testing.T) {
	bodyOf.checkTrees(t, []treeCase{
		{"", "List@1"},
		{";", "List@0"},
		{";;x;;y;", "List@0[Do@2[Ref x@2], Do@5[Ref y@5]]"},
		{"x ; y", "List@0[Do@0[Ref x@0], Do@4[Ref y@4]]"},
	})
	procBodyOf.checkTrees(t, []treeCase{
		{"RETURN; RETURN 1", "List@0[Return@0, Return@8[Number 1@15]]"},
	})
	bodyOf.checkWrong(t, []wrongCase{
		{"x y", api.ErrWord, 2},
		{"THEN", api.ErrWord, 0},
		{"UNTIL", api.ErrWord, 0},
		{"ELSE", api.ErrWord, 0},
		{"ELSIF", api.ErrWord, 0},
		{"1", api.ErrWord, 0},
		{"x; )", api.ErrWord, 3},
		{"TRUE", api.ErrWord, 0},
		{"(x)", api.ErrWord, 0},
		{"END M; x", api.ErrWord, 5},
	})
}

// B3: assignments, and calls that are acts.
func TestAssignmentsAndCalls(t *testing.T) {
	actOf.checkTrees(t, []treeCase{
		{"x := y", "Assign@0[Ref x@0, Ref y@5]"},
		{"x.y[1] := 2 + 3", "Assign@0[Index@0[Dot y@0[Ref x@0], Number 1@4], Op +@10[Number 2@10, Number 3@14]]"},
		{"x", "Do@0[Ref x@0]"},
		{"x()", "Do@0[Ref x@0]"},
		{"M.x(1, y)", "Do@0[Dot x@0[Ref M@0], Number 1@4, Ref y@7]"},
		{"x((1))", "Do@0[Ref x@0, Number 1@3]"},
	})
	actOf.checkWrong(t, []wrongCase{
		{"x = 1", api.ErrWord, 2},
		{"x :=", api.ErrWord, 5},
		{"x := y := z", api.ErrWord, 7},
		{"x() := 1", api.ErrWord, 4},
		{"x(1).y", api.ErrWord, 4},
		{"x()()", api.ErrWord, 3},
		{"x(1,)", api.ErrWord, 4},
		{"x(,1)", api.ErrWord, 2},
		{"x(1; 2)", api.ErrWord, 3},
		{"x(1 2)", api.ErrWord, 4},
		{"x + 1", api.ErrWord, 2},
	})
}

// B3: acts with kept words.
func TestActsWithKeptWords(t *testing.T) {
	actOf.checkTrees(t, []treeCase{
		{"IF a THEN END", "If@0[Ref a@3, List@10]"},
		{"IF a THEN ELSE END", "If 1@0[Ref a@3, List@10, List@15]"},
		{"IF a THEN b ELSIF c THEN d ELSIF e THEN ELSE f; g END", "If 1@0[Ref a@3, List@10[Do@10[Ref b@10]], Ref c@18, List@25[Do@25[Ref d@25]], Ref e@33, List@40, List@45[Do@45[Ref f@45], Do@48[Ref g@48]]]"},
		{"IF a THEN b ELSIF c THEN d END", "If@0[Ref a@3, List@10[Do@10[Ref b@10]], Ref c@18, List@25[Do@25[Ref d@25]]]"},
		{"WHILE a DO b; c END", "While@0[Ref a@6, List@11[Do@11[Ref b@11], Do@14[Ref c@14]]]"},
		{"WHILE (a) DO END", "While@0[Ref a@7, List@13]"},
		{"REPEAT a; UNTIL b", "Repeat@0[List@7[Do@7[Ref a@7]], Ref b@16]"},
		{"REPEAT UNTIL b", "Repeat@0[List@7, Ref b@13]"},
		{"RETURN", "Return@0"},
		{"RETURN (x)", "Return@0[Ref x@8]"},
		{"NEW(x.y)", "New@0[Dot y@4[Ref x@4]]"},
		{"OUT(-1)", "Out@0[Neg@4[Number 1@5]]"},
		{"GET(x[0])", "Get@0[Index@4[Ref x@4, Number@6]]"},
		{"ASSERT(TRUE)", "Assert@0[True@7]"},
		{"IF a THEN RETURN ELSIF b THEN RETURN ELSE RETURN END", "If 1@0[Ref a@3, List@10[Return@10], Ref b@23, List@30[Return@30], List@42[Return@42]]"},
		{"REPEAT RETURN UNTIL a", "Repeat@0[List@7[Return@7], Ref a@20]"},
	})
}

func TestWrongActsWithKeptWords(t *testing.T) {
	actOf.checkWrong(t, []wrongCase{
		{"IF THEN END", api.ErrWord, 3},
		{"IF a DO END", api.ErrWord, 5},
		{"IF a THEN ELSE ELSIF b THEN END", api.ErrWord, 15},
		{"IF a THEN ELSE ELSE END", api.ErrWord, 15},
		{"IF a THEN UNTIL", api.ErrWord, 10},
		{"WHILE a THEN END", api.ErrWord, 8},
		{"WHILE DO END", api.ErrWord, 6},
		{"WHILE a DO ELSE END", api.ErrWord, 11},
		{"REPEAT UNTIL", api.ErrWord, 13},
		{"REPEAT a END", api.ErrWord, 9},
		{"RETURN THEN", api.ErrWord, 7},
		{"RETURN )", api.ErrWord, 7},
		{"NEW", api.ErrWord, 4},
		{"NEW()", api.ErrWord, 4},
		{"NEW(1)", api.ErrWord, 4},
		{"NEW((x))", api.ErrWord, 4},
		{"NEW(x())", api.ErrWord, 5},
		{"NEW(x, y)", api.ErrWord, 5},
		{"OUT()", api.ErrWord, 4},
		{"OUT 1", api.ErrWord, 4},
		{"OUT(1, 2)", api.ErrWord, 5},
		{"GET(1)", api.ErrWord, 4},
		{"GET(x + 1)", api.ErrWord, 6},
		{"ASSERT()", api.ErrWord, 7},
	})
}

// B3: designators, whose chains go from the left and begin where their names do.
func TestDesignators(t *testing.T) {
	designators.checkTrees(t, []treeCase{
		{"a", "Ref a@0"},
		{"a.b", "Dot b@0[Ref a@0]"},
		{"a^", "Deref@0[Ref a@0]"},
		{"a[ 1 ]", "Index@0[Ref a@0, Number 1@3]"},
		{"a{T}", "Guard@0[Ref a@0, TypeName T@2]"},
		{"a{M.T}", "Guard@0[Ref a@0, TypeName T@2[Ref M@2]]"},
		{" a.b[c.d]^{T}.e", "Dot e@1[Guard@1[Deref@1[Index@1[Dot b@1[Ref a@1], Dot d@5[Ref c@5]]], TypeName T@11]]"},
	})
	designators.checkWrong(t, []wrongCase{
		{"a.1", api.ErrWord, 2},
		{"a.IF", api.ErrWord, 2},
		{"a[]", api.ErrWord, 2},
		{"a[1, 2]", api.ErrWord, 3},
		{"a[1", api.ErrWord, 3},
		{"a{}", api.ErrWord, 2},
		{"a{T", api.ErrWord, 3},
		{"a{a.b.c}", api.ErrWord, 5},
		{"a{1}", api.ErrWord, 2},
		{"IF", api.ErrWord, 0},
	})
}

// B3: factors.
func TestFactors(t *testing.T) {
	exprOf.checkTrees(t, []treeCase{
		{"0", "Number@0"},
		{"007", "Number 7@0"},
		{"2147483647", "Number 2147483647@0"},
		{"TRUE", "True@0"},
		{"FALSE", "False@0"},
		{"NIL", "Nil@0"},
		{"INTEGER", "Ref INTEGER@0"},
		{"~a", "Not@0[Ref a@1]"},
		{"~~a", "Not@0[Not@1[Ref a@2]]"},
		{"~(a)", "Not@0[Ref a@2]"},
		{"((a))", "Ref a@2"},
		{"f()", "Call@0[Ref f@0]"},
		{"M.f(1, a.b)", "Call@0[Dot f@0[Ref M@0], Number 1@4, Dot b@7[Ref a@7]]"},
		{"f(g(1))", "Call@0[Ref f@0, Call@2[Ref g@2, Number 1@4]]"},
		{"f", "Ref f@0"},
	})
	exprOf.checkWrong(t, []wrongCase{
		{"", api.ErrWord, 0},
		{"()", api.ErrWord, 1},
		{"(1", api.ErrWord, 4},
		{"1 2", api.ErrWord, 2},
		{"1a", api.ErrWord, 1},
		{"~", api.ErrWord, 1},
		{"IF", api.ErrWord, 0},
		{"f(1)(2)", api.ErrWord, 4},
		{"f().a", api.ErrWord, 3},
		{"(a).b", api.ErrWord, 3},
		{"NIL^", api.ErrWord, 3},
		{"1[0]", api.ErrWord, 1},
	})
}

// B2, B3: operators, how they bind, chains from the left; a node begins where its left part does, without the brackets around that.
func TestOperators(t *testing.T) {
	for _, w := range strings.Fields("+ - OR * DIV MOD & = # < <= > >=") {
		exprOf.checkTrees(t, []treeCase{{"1 " + w + " 2", fmt.Sprintf("Op %s@0[Number 1@0, Number 2@%d]", w, 3+len(w))}})
	}
	exprOf.checkTrees(t, []treeCase{
		{"a - b + c", "Op +@0[Op -@0[Ref a@0, Ref b@4], Ref c@8]"},
		{"a - (b + c)", "Op -@0[Ref a@0, Op +@5[Ref b@5, Ref c@9]]"},
		{"(a - b) * c", "Op *@1[Op -@1[Ref a@1, Ref b@5], Ref c@10]"},
		{"a DIV b MOD c & d", "Op &@0[Op MOD@0[Op DIV@0[Ref a@0, Ref b@6], Ref c@12], Ref d@16]"},
		{"a + b * c OR d", "Op OR@0[Op +@0[Ref a@0, Op *@4[Ref b@4, Ref c@8]], Ref d@13]"},
		{"a + b = c * d", "Op =@0[Op +@0[Ref a@0, Ref b@4], Op *@8[Ref c@8, Ref d@12]]"},
		{"(a = b) = c", "Op =@1[Op =@1[Ref a@1, Ref b@5], Ref c@10]"},
		{"-a", "Neg@0[Ref a@1]"},
		{"- a * b + c", "Op +@0[Neg@0[Op *@2[Ref a@2, Ref b@6]], Ref c@10]"},
		{"-(-a)", "Neg@0[Neg@2[Ref a@3]]"},
		{"-1 = -2", "Op =@0[Neg@0[Number 1@1], Neg@5[Number 2@6]]"},
		{"~a & b", "Op &@0[Not@0[Ref a@1], Ref b@5]"},
		{"a IS T", "Is@0[Ref a@0, TypeName T@5]"},
		{"(a) IS M.T", "Is@1[Ref a@1, TypeName T@7[Ref M@7]]"},
		{"a.b + 1 IS T", "Is@0[Op +@0[Dot b@0[Ref a@0], Number 1@6], TypeName T@11]"},
	})
	exprOf.checkWrong(t, []wrongCase{
		{"1 +", api.ErrWord, 3},
		{"+ 1", api.ErrWord, 0},
		{"--1", api.ErrWord, 1},
		{"1 + -2", api.ErrWord, 4},
		{"1 * -2", api.ErrWord, 4},
		{"~-1", api.ErrWord, 1},
		{"a = b = c", api.ErrWord, 6},
		{"a < b IS T", api.ErrWord, 6},
		{"a IS T = b", api.ErrWord, 7},
		{"a IS 1", api.ErrWord, 5},
		{"a IS (T)", api.ErrWord, 5},
		{"a IS", api.ErrWord, 4},
		{"1 := 2", api.ErrWord, 2},
		{"DIV 2", api.ErrWord, 0},
		{"1 <> 2", api.ErrWord, 3},
	})
}

// lists: all lists of a tree.
func lists(n api.Node) [][]api.Node {
	l := [][]api.Node{n.Subs}
	for _, x := range n.Subs {
		l = append(l, lists(x)...)
	}
	return l
}

// Z2: what comes out is the caller's, and no two lists share memory.
func TestTreesAreFresh(t *testing.T) {
	n := good(t, everything)
	want := tellNode(n, 0)
	owners := map[*api.Node]int{}
	all := lists(n)
	for i, l := range all {
		l = l[:cap(l)]
		for j := range l {
			if k, ok := owners[&l[j]]; ok {
				t.Fatalf("lists %d and %d share memory", k, i)
			}
			owners[&l[j]] = i
		}
	}
	for _, l := range all {
		clear(l)
	}
	if got := tellNode(good(t, everything), 0); got != want {
		t.Errorf("a tree that was answered before is still used: %s", got)
	}
}

// Z1, Z3: whatever is read, it ends with a tree, or with an error that has its place, and no tree.
func FuzzParse(f *testing.F) {
	for i := range len(everything) {
		f.Add(everything[:i] + everything[i+1:])
		f.Add(everything[:i])
	}
	f.Fuzz(func(t *testing.T, text string) {
		n, err := Parse(text)
		if err == nil {
			if n.Kind != api.Module || len(n.Subs) != 6 {
				t.Errorf("%q: %s", text, tellNode(n, 0))
			}
			return
		}
		if tellNode(n, 0) != "None@0" {
			t.Errorf("%q: a tree with an error", text)
		}
		if len(text) > api.MaxText {
			return
		}
		if e, in, at := api.Tell(err); e < api.ErrSign || e > api.ErrWord || in != 0 || at < 0 || at > len(text) {
			t.Errorf("%q: %v", text, err)
		}
	})
}
