package parse

import (
	"strings"
	"testing"

	"oberlin/api"
)

// B4: how deep expressions stand in one another: in OUT, the module's acts and the expression are two levels already.
func TestDeepBrackets(t *testing.T) {
	for _, k := range []int{17, 18} {
		good(t, exprOf.text(strings.Repeat("(", k)+"1"+strings.Repeat(")", k)))
	}
	exprOf.checkWrong(t, []wrongCase{
		{strings.Repeat("(", 19) + "1" + strings.Repeat(")", 19), api.ErrLimit, 19},
		{strings.Repeat("(", 25) + "1" + strings.Repeat(")", 25), api.ErrLimit, 19},
		{strings.Repeat("(", 19), api.ErrLimit, 19},
		{strings.Repeat("( ", 19) + "1", api.ErrLimit, 38},
		{strings.Repeat("(", 18), api.ErrWord, 18},
	})
}

// B4: `~` is asked behind its sign.
func TestDeepNegations(t *testing.T) {
	good(t, exprOf.text(strings.Repeat("~", 18)+"a"))
	exprOf.checkWrong(t, []wrongCase{
		{strings.Repeat("~", 19) + "a", api.ErrLimit, 19},
		{strings.Repeat("~ ", 22) + "a", api.ErrLimit, 38},
		{strings.Repeat("~", 9) + strings.Repeat("(", 10) + "a", api.ErrLimit, 19},
		{strings.Repeat("~(", 9) + "~a", api.ErrLimit, 19},
	})
	good(t, exprOf.text(strings.Repeat("~(", 9)+"a"+strings.Repeat(")", 9)))
}

// B4: indices and arguments are expressions, also where nothing can be read as one.
func TestDeepIndicesAndArguments(t *testing.T) {
	good(t, exprOf.text(strings.Repeat("a[", 18)+"1"+strings.Repeat("]", 18)))
	good(t, exprOf.text(strings.Repeat("f(", 18)+"1"+strings.Repeat(")", 18)))
	good(t, exprOf.text(strings.Repeat("f(", 18)+"f()"+strings.Repeat(")", 18)))
	exprOf.checkWrong(t, []wrongCase{
		{strings.Repeat("a[", 19) + "1" + strings.Repeat("]", 19), api.ErrLimit, 38},
		{strings.Repeat("f(", 19) + "1" + strings.Repeat(")", 19), api.ErrLimit, 38},
		{strings.Repeat("a[", 19) + "]", api.ErrLimit, 38},
	})
}

// B4: lists of acts, with the expressions in them.
func TestDeepActs(t *testing.T) {
	const begin = "WHILE a DO "
	const end = " END"
	// the last one's condition, or its acts, stand 20 deep
	good(t, bodyOf.text(strings.Repeat(begin, 19)+strings.Repeat(end, 19)))
	good(t, bodyOf.text(strings.Repeat("REPEAT ", 19)+strings.Repeat(" UNTIL a", 19)))
	good(t, bodyOf.text(strings.Repeat("IF a THEN ELSE ", 19)+strings.Repeat(end, 19)))
	bodyOf.checkWrong(t, []wrongCase{
		{strings.Repeat(begin, 20) + strings.Repeat(end, 20), api.ErrLimit, 19*len(begin) + 6},
		{strings.Repeat("REPEAT ", 20) + strings.Repeat(" UNTIL a", 20), api.ErrLimit, 141},
		{strings.Repeat(begin, 19) + "x := 1" + strings.Repeat(end, 19), api.ErrLimit, 19*len(begin) + 5},
		{strings.Repeat(begin, 19) + "RETURN 1" + strings.Repeat(end, 19), api.ErrLimit, 19*len(begin) + 7},
		{strings.Repeat(begin, 19) + "RETURN )" + strings.Repeat(end, 19), api.ErrLimit, 19*len(begin) + 7},
	})
	good(t, bodyOf.text(strings.Repeat(begin, 19)+"RETURN; x; NEW(x.y)"+strings.Repeat(end, 19)))
}

// B4: each place where a list of acts, an expression, or what `~` stands for is a level deeper: as many levels as told, ahead of the part, are too many by one.
func TestEveryLevel(t *testing.T) {
	cases := []struct {
		levels int
		part   string
	}{
		{20, "x := "}, {20, "x["}, {20, "f("}, {20, "IF "}, {20, "WHILE "}, {20, "REPEAT "}, {20, "RETURN "}, {20, "OUT("}, {20, "ASSERT("}, {20, "NEW(x["}, {20, "GET(x["},
		{19, "IF a THEN OUT("}, {19, "IF a THEN ELSIF a THEN OUT("}, {19, "IF a THEN ELSE OUT("}, {19, "WHILE a DO OUT("}, {19, "REPEAT OUT("},
		{19, "IF ("}, {19, "IF a THEN ELSIF ("}, {19, "WHILE ("}, {19, "REPEAT UNTIL ("}, {19, "RETURN ("}, {19, "OUT(("}, {19, "ASSERT(("}, {19, "x := ("},
		{19, "OUT(~"}, {19, "f(1, ("}, {18, "x := f(1, ("}, {19, "x := a["}, {19, "x := 1 = ("}, {19, "x := 1 + ("}, {19, "x := 1 * ("}, {19, "x := -("},
		{18, "OUT(~~"}, {18, "OUT((~"}, {18, "OUT(~("}, {18, "OUT(f(~"}, {18, "OUT(f(a["},
	}
	for _, begin := range []string{"MODULE M; BEGIN ", "MODULE M; PROCEDURE P; BEGIN "} {
		for _, c := range cases {
			deep := begin + strings.Repeat("REPEAT ", c.levels-1) + c.part
			wholeText.checkWrong(t, []wrongCase{{deep + "a", api.ErrLimit, len(deep)}})
			less := begin + strings.Repeat("REPEAT ", c.levels-2) + c.part + "a"
			wholeText.checkWrong(t, []wrongCase{{less, api.ErrShort, len(less)}})
		}
		bare := begin + strings.Repeat("REPEAT ", 19) + "RETURN"
		wholeText.checkWrong(t, []wrongCase{{bare, api.ErrShort, len(bare)}, {bare + " DO", api.ErrLimit, len(bare) + 1}})
	}
}

// B4: a level counts only while it is read; outside of acts there is none ahead.
func TestLevelsEnd(t *testing.T) {
	wide := strings.Repeat("IF ~(a) THEN f(a[1]) ELSIF a THEN ELSE END; ", 40)
	good(t, bodyOf.text(wide))
	deep := strings.Repeat("(", 19) + "1" + strings.Repeat(")", 19)
	good(t, someConsts.text("CONST a = "+deep+"; b = "+deep+";"))
	someConsts.checkWrong(t, []wrongCase{{"CONST a = (" + deep + ");", api.ErrLimit, 30}})
	procedure := "PROCEDURE P; BEGIN " + strings.Repeat("WHILE a DO ", 19) + strings.Repeat(" END", 19) + " END P; "
	good(t, someProcs.text(procedure+procedure))
}

// B4: the parts of a designator behind its name, and where it is told.
func TestLongDesignators(t *testing.T) {
	for _, part := range []string{"^", ".b", "[1]", "{T}", "{M.T}", "[a[0]]"} {
		good(t, designators.text("a"+strings.Repeat(part, 20)))
		designators.checkWrong(t, []wrongCase{
			{"a" + strings.Repeat(part, 21), api.ErrLimit, 1 + 21*len(part)},
			{"a" + strings.Repeat(part, 21) + " )", api.ErrLimit, 2 + 21*len(part)},
			{"a" + strings.Repeat(part, 30), api.ErrLimit, 1 + 21*len(part)},
		})
	}
	designators.checkWrong(t, []wrongCase{
		{"a" + strings.Repeat("^", 20) + ".1", api.ErrWord, 22},
		{"a" + strings.Repeat("^", 20) + "[1", api.ErrWord, 23},
	})
}

// B4: operators of one chain.
func TestLongChains(t *testing.T) {
	for _, w := range []string{"+", "-", "OR", "*", "DIV", "MOD", "&"} {
		link := " " + w + " 1"
		good(t, exprOf.text("1"+strings.Repeat(link, 20)))
		exprOf.checkWrong(t, []wrongCase{
			{"1" + strings.Repeat(link, 21), api.ErrLimit, 21 * len(link)},
			{"1" + strings.Repeat(link, 30), api.ErrLimit, 21 * len(link)},
			{"1" + strings.Repeat(link, 20) + " " + w, api.ErrLimit, 20*len(link) + len(w) + 2},
		})
	}
	sum := "1" + strings.Repeat(" + 1 - 1", 10)
	product := "1" + strings.Repeat(" * 1 DIV 1", 10)
	good(t, exprOf.text(sum+" = -"+sum))
	good(t, exprOf.text(product+strings.Repeat(" + "+product, 20)))
	exprOf.checkWrong(t, []wrongCase{
		{sum + " OR 1", api.ErrLimit, len(sum) + 4},
		{product + " & 1", api.ErrLimit, len(product) + 3},
		{"-" + sum + " + 1", api.ErrLimit, len(sum) + 4},
	})
}
