package check_test

import (
	"testing"

	"oberlin/api"
)

// D6: names, and those that an imported module shows.
func TestDesignatedNames(t *testing.T) {
	tryActs(t, []trial{
		{api.OK, "OUT(i + five + Lib.top + Lib.i); ASSERT(b & on & Lib.yes & Lib.b)"},
		{api.ErrName, "OUT(@nix)"},
		{api.ErrName, "OUT(@INTEGER)"},
		{api.ErrName, "OUT(@X)"},
		{api.ErrName, "OUT(@Sum)"},
		{api.ErrKind, "OUT(@Lib)"},
		{api.ErrKind, "OUT(@Own)"},
		{api.ErrKind, "OUT(@Num)"},
		{api.ErrName, "OUT(@Lib.nix)"},
		{api.ErrName, "OUT(@Lib.low)"},
		{api.ErrName, "OUT(@Lib.q.v)"},
		{api.ErrKind, "OUT(@Lib.R)"},
		{api.ErrKind, "OUT(@Lib.Sum)"},
		{api.ErrName, "OUT(@Nix.top)"},
		{api.ErrName, "OUT(@X.i)"},
		{api.ErrKind, "OUT(@Lib[0])"},
		{api.ErrKind, "OUT(@Lib^)"},
		{api.ErrKind, "OUT(@Own.mine)"},
		{api.ErrKind, "OUT(@Num.mine)"},
		{api.ErrType, "OUT(@five.x)"},
		{api.ErrType, "OUT(@Lib.top.x)"},
	})
}

// D6: fields, of records and of pointers to them; those that are not exported only where their record is declared.
func TestFields(t *testing.T) {
	tryActs(t, []trial{
		{api.OK, "OUT(o.mine + op.mine + op^.mine + o.v + op.v + p.v + p.n.n.v + r.v + f.f + fp.f + big.more + big.v)"},
		{api.ErrType, "OUT(@i.v)"},
		{api.ErrType, "OUT(@b.v)"},
		{api.ErrType, "OUT(@line.v)"},
		{api.ErrType, "OUT(@p.v.v)"},
		{api.ErrName, "OUT(@o.nix)"},
		{api.ErrName, "OUT(@op.nix)"},
		{api.ErrName, "OUT(@p.more)"},
		{api.ErrName, "OUT(@f.mine)"},
		{api.ErrName, "OUT(@p.h)"},
		{api.ErrName, "OUT(@r.h)"},
		{api.ErrName, "OUT(@o.h)"},
		{api.ErrName, "OUT(@op.h)"},
		{api.ErrName, "OUT(@big.own)"},
		{api.OK, "OUT(Lib.hid.a)"},
		{api.ErrName, "OUT(@Lib.hid.b)"},
		{api.ErrName, "OUT(@o.i)"},
		{api.ErrName, "OUT(@o.Lib + nix)"},
	})
	shown := "MODULE Y; IMPORT X; BEGIN OUT(X.o.a); OUT(@X.o.b) END Y."
	expect(t, api.ErrName, "MODULE X; TYPE O = RECORD a*: INTEGER; b: INTEGER; END; VAR o*: O; BEGIN OUT(o.a + o.b) END X.", shown)
	// A module that extends a record of another one sees what that shows, and all of its own; a third one only what both show.
	a := "MODULE A; TYPE R* = RECORD x*: INTEGER; y: INTEGER; END; END A."
	b := "MODULE B; IMPORT A; TYPE S* = RECORD (A.R) z: INTEGER; w*: INTEGER; END; VAR s*: S; BEGIN OUT(s.x + s.z + s.w) END B."
	expect(t, api.OK, a, b, "MODULE C; IMPORT A, B; VAR r: A.R; BEGIN OUT(B.s.x + B.s.w + r.x) END C.")
	expect(t, api.ErrName, a, b, "MODULE C; IMPORT B; BEGIN OUT(@B.s.z) END C.")
	expect(t, api.ErrName, a, b, "MODULE C; IMPORT B; BEGIN OUT(@B.s.y) END C.")
}

// D6: places of arrays; both parts are looked at ahead of whether they fit.
func TestIndexes(t *testing.T) {
	tryActs(t, []trial{
		{api.OK, "OUT(line[0] + line[i * 2] + Lib.row[3] + Lib.grid[1][2] + many[1].mine + line[line[0]])"},
		{api.OK, "OUT(line[3] + line[-1] + line[2147483647])"},
		{api.ErrType, "OUT(@i[0])"},
		{api.ErrType, "OUT(@o[0])"},
		{api.ErrType, "OUT(@p[0])"},
		{api.ErrType, "OUT(@line[0][0])"},
		{api.ErrType, "OUT(line[@TRUE])"},
		{api.ErrType, "OUT(line[@NIL])"},
		{api.ErrType, "OUT(line[@line])"},
		{api.ErrType, "OUT(@i[TRUE])"},
		{api.ErrName, "OUT(line[@nix])"},
		{api.ErrName, "OUT(i[@nix])"},
		{api.ErrName, "OUT(@nix[nox])"},
		{api.ErrType, "OUT(@Lib.grid[1])"},
		{api.ErrType, "OUT(line[i + @b])"},
	})
}

// D6: what pointers point to, and as what they are looked at.
func TestPointersLookedAt(t *testing.T) {
	tryActs(t, []trial{
		{api.OK, "OUT(p^.v); r := p^; o := op^; OUT(p^.n^.v)"},
		{api.ErrType, "OUT(@i^)"},
		{api.ErrType, "r := @r^"},
		{api.ErrType, "OUT(@line^.v)"},
		{api.ErrType, "OUT(@p^^.v)"},
		{api.ErrType, "OUT(@p^)"},
		{api.OK, "OUT(p{Lib.BigP}.more + p{OwnP}.mine + p{Lib.P}.v + p{Lib.BigP}{Lib.BigP}.v + p{OwnP}^.mine)"},
		{api.ErrType, "OUT(@i{Lib.P}.v)"},
		{api.ErrType, "OUT(@r{Lib.P}.v)"},
		{api.ErrType, "OUT(@i{Nix}.v)"},
		{api.ErrName, "OUT(p{@Nix}.v)"},
		{api.ErrName, "OUT(p{@Lib.Nix}.v)"},
		{api.ErrKind, "OUT(p{@five}.v)"},
		{api.ErrKind, "OUT(p{@Lib.top}.v)"},
		{api.ErrType, "OUT(@p{INTEGER})"},
		{api.ErrType, "OUT(@p{Lib.R}.v)"},
		{api.ErrType, "OUT(@p{Line}.v)"},
		{api.ErrType, "OUT(@p{FreeP}.f)"},
		{api.ErrType, "OUT(@big{Lib.P}.v)"},
		{api.ErrType, "OUT(@big{OwnP}.v)"},
		{api.ErrType, "OUT(@p{OwnP}{Lib.BigP}.v)"},
		{api.ErrName, "OUT(@p{Lib.BigP}.mine)"},
		{api.OK, "b := p IS Lib.BigP; b := Last(p) IS OwnP; b := p{OwnP} IS OwnP; b := p.n IS Lib.P"},
		{api.ErrType, "b := @NIL IS Lib.P"},
		{api.ErrType, "b := @1 IS Lib.P"},
		{api.ErrType, "b := @r IS Nix"},
		{api.ErrType, "b := @i + 1 IS Lib.P"},
		{api.ErrName, "b := p IS @Nix"},
		{api.ErrKind, "b := p IS @Num"},
		{api.ErrType, "b := @p IS Lib.R"},
		{api.ErrType, "b := @p IS FreeP"},
		{api.ErrType, "b := @big IS Lib.P"},
		{api.ErrType, "i := @p IS Lib.P"},
		{api.ErrName, "b := @nix IS Nox"},
	})
}

// D6: operators, but = and #.
func TestOperators(t *testing.T) {
	tryActs(t, []trial{
		{api.OK, "i := -i + 1 - 2 * 3 DIV 4 MOD 5; b := ~b & on OR (i < 2) & (1 >= i) OR (i <= j) & (i > j)"},
		{api.ErrType, "b := ~@i"},
		{api.ErrType, "b := ~@NIL"},
		{api.ErrType, "b := ~@p"},
		{api.ErrType, "i := -@b"},
		{api.ErrType, "i := -@NIL"},
		{api.ErrName, "b := ~@nix"},
		{api.ErrName, "i := -@nix"},
		{api.ErrType, "b := @~b + 1"},
		{api.ErrType, "b := -@i & b"},
		{api.ErrType, "i := @i < j"},
		{api.ErrType, "b := @i + j"},
		{api.ErrType, "i := @b & b"},
		{api.ErrType, "i := @~b"},
		{api.ErrType, "b := @-i"},
		{api.ErrType, "i := 1 + @b + nix"},
		{api.ErrName, "i := @nix + b"},
	})
	for _, sign := range []string{"+", "-", "*", "DIV", "MOD", "<", "<=", ">", ">="} {
		tryActs(t, []trial{
			{api.ErrType, "ASSERT(@b " + sign + " 1)"},
			{api.ErrType, "ASSERT(1 " + sign + " @b)"},
			{api.ErrType, "ASSERT(1 " + sign + " @p)"},
			{api.ErrType, "ASSERT(@NIL " + sign + " b)"},
			{api.ErrType, "ASSERT(@r " + sign + " 1)"},
			{api.ErrName, "ASSERT(b " + sign + " @nix)"},
		})
	}
	for _, sign := range []string{"&", "OR"} {
		tryActs(t, []trial{
			{api.OK, "ASSERT(b " + sign + " on)"},
			{api.ErrType, "ASSERT(@1 " + sign + " b)"},
			{api.ErrType, "ASSERT(b " + sign + " @1)"},
			{api.ErrType, "ASSERT(@p " + sign + " NIL)"},
			{api.ErrName, "ASSERT(1 " + sign + " @nix)"},
		})
	}
}

// D6: what may be held equal.
func TestEquality(t *testing.T) {
	for _, sign := range []string{" = ", " # "} {
		for _, pair := range [][2]string{{"i", "1"}, {"b", "TRUE"}, {"p", "NIL"}, {"NIL", "p"}, {"p", "p"}, {"p", "big"}, {"big", "p"}, {"p", "op"}, {"op", "p"}, {"fp", "NIL"}, {"i", "five"}, {"Num()", "j"}, {"i < j", "b"}} {
			tryActs(t, []trial{{api.OK, "b := (" + pair[0] + ")" + sign + "(" + pair[1] + ")"}})
		}
		for _, pair := range [][2]string{{"i", "b"}, {"b", "i"}, {"NIL", "NIL"}, {"i", "NIL"}, {"NIL", "b"}, {"p", "i"}, {"big", "op"}, {"p", "fp"}, {"r", "r"}, {"o", "r"}, {"line", "line"}, {"line", "twin"}, {"p", "r"}, {"r", "NIL"}} {
			tryActs(t, []trial{
				{api.ErrType, "b := @" + pair[0] + sign + pair[1]},
				{api.ErrName, "b := " + pair[0] + sign + "@nix"},
				{api.ErrName, "b := @nix" + sign + pair[1]},
			})
		}
		tryActs(t, []trial{{api.ErrType, "b := b & (@1" + sign + "b)"}, {api.ErrType, "i := @1" + sign + "1"}})
	}
}

// D6: calls: what is called, with how many arguments, of which types, and where.
func TestCalls(t *testing.T) {
	tryActs(t, []trial{
		{api.OK, "Nop; Nop(); One(1); One(i + Num()); Two(1, i); Lib.Go; Lib.Go(); b := Flag(Flag(b)); OUT(Lib.Sum(p) + Lib.Sum(NIL) + Lib.Sum(Last(big)))"},
		{api.ErrName, "@nix"},
		{api.ErrName, "@nix(nox)"},
		{api.ErrName, "@Lib.nix"},
		{api.ErrName, "@Lib.Inc"},
		{api.ErrName, "@Nix.Go"},
		{api.ErrKind, "@i"},
		{api.ErrKind, "@i(1)"},
		{api.ErrKind, "@five(nix)"},
		{api.ErrKind, "@Lib"},
		{api.ErrKind, "@Own"},
		{api.ErrKind, "@Lib.i"},
		{api.ErrKind, "@Lib.top"},
		{api.ErrKind, "@Lib.R"},
		{api.ErrKind, "@p.v"},
		{api.ErrKind, "@line[0](1)"},
		{api.ErrKind, "@p^"},
		{api.ErrKind, "@p{Lib.BigP}"},
		{api.ErrKind, "OUT(@p.v(1))"},
		{api.ErrName, "@p.nix"},
		{api.ErrType, "@i.x(1)"},
		{api.ErrType, "line[@b](1)"},
		{api.ErrName, "p{@Nix}(1)"},
		{api.ErrKind, "@Nop.x"},
		{api.ErrType, "@Nop(1)"},
		{api.ErrType, "@Nop(nix)"},
		{api.ErrType, "@One"},
		{api.ErrType, "@One()"},
		{api.ErrType, "@One(1, 2)"},
		{api.ErrType, "@Two(1)"},
		{api.ErrType, "@Two(TRUE, i, i)"},
		{api.ErrType, "OUT(@Lib.Sum())"},
		{api.ErrType, "OUT(@Lib.Sum(NIL, 1))"},
	})
}

// D6: arguments, one by one.
func TestArguments(t *testing.T) {
	tryActs(t, []trial{
		{api.ErrType, "One(@TRUE)"},
		{api.ErrType, "One(@NIL)"},
		{api.ErrType, "One(@p)"},
		{api.ErrType, "One(@line)"},
		{api.ErrName, "One(@nix)"},
		{api.ErrType, "Two(@b, nix)"},
		{api.ErrName, "Two(1, @nix)"},
		{api.ErrType, "OUT(Lib.Sum(@fp))"},
		{api.ErrType, "OUT(Lib.Sum(@1))"},
		{api.ErrType, "OUT(Lib.Sum(@r))"},
		{api.OK, "OUT(Lib.Sum(op)); OUT(Lib.Sum(big)); OUT(Lib.Sum(p{OwnP}))"},
		{api.ErrType, "b := Flag(@1)"},
		{api.ErrType, "One(@Flag(b))"},
		{api.ErrType, "One(1 + @Flag(b))"},
	})
}

// D6: arguments of VAR parameters are variables, of the very type, or records that extend it.
func TestVariableArguments(t *testing.T) {
	tryActs(t, []trial{
		{api.OK, "Two(1, i); Two(1, line[0]); Two(1, p.v); Two(1, p^.v); Two(1, Lib.i); Two(1, Lib.row[1]); Two(1, p{OwnP}.mine); Two(1, many[0].mine)"},
		{api.ErrKind, "Two(1, @1)"},
		{api.ErrKind, "Two(1, @i + 1)"},
		{api.ErrKind, "Two(1, @-i)"},
		{api.ErrKind, "Two(1, @-nix)"},
		{api.ErrKind, "Two(1, @Num())"},
		{api.ErrKind, "Two(1, @nix())"},
		{api.ErrKind, "Two(1, @TRUE)"},
		{api.ErrKind, "ByP(@NIL)"},
		{api.ErrKind, "Two(1, @p IS Lib.P)"},
		{api.ErrKind, "Two(1, @~b)"},
		{api.ErrName, "Two(1, @nix)"},
		{api.ErrKind, "Two(1, @five)"},
		{api.ErrKind, "Two(1, @Lib.top)"},
		{api.ErrKind, "Two(1, @Num)"},
		{api.ErrKind, "Two(1, @Lib.Sum)"},
		{api.ErrKind, "Two(1, @Own)"},
		{api.ErrKind, "Two(1, @Lib)"},
		{api.ErrName, "Two(1, @Lib.low)"},
		{api.ErrName, "Two(1, @p.nix)"},
		{api.ErrType, "Two(1, line[@b])"},
		{api.ErrType, "Two(1, @b)"},
		{api.ErrType, "Two(1, @p)"},
		{api.ErrType, "Two(1, @line)"},
		{api.OK, "ByP(p); ByP(p.n); ByP(p^.n)"},
		{api.ErrType, "ByP(@big)"},
		{api.ErrType, "ByP(@op)"},
		{api.ErrType, "ByP(@r)"},
		{api.ErrKind, "ByP(@p{Lib.P})"},
		{api.ErrKind, "ByP(@p{Lib.BigP})"},
		{api.ErrName, "ByP(p{@Nix})"},
		{api.ErrType, "ByP(@i{Lib.P})"},
		{api.OK, "ByR(r); ByR(o); ByR(p^); ByR(op^); ByR(big^); ByR(many[1]); ByR(p{OwnP}^); ByOwn(o); ByOwn(op^); Lib.Set(o); Lib.Set(r)"},
		{api.ErrType, "ByR(@f)"},
		{api.ErrType, "ByR(@p)"},
		{api.ErrType, "ByR(@i)"},
		{api.ErrType, "ByOwn(@r)"},
		{api.ErrType, "ByOwn(@big^)"},
		{api.OK, "ByLine(line); Lib.Put(Lib.row, 1); Lib.Put(Lib.grid[0], 1)"},
		{api.ErrType, "ByLine(@twin)"},
		{api.ErrType, "Lib.Put(@line, nix)"},
	})
}

// D6: a call in an expression has a result, as an act it has none; that is asked behind its arguments.
func TestResults(t *testing.T) {
	tryActs(t, []trial{
		{api.ErrType, "OUT(@Nop())"},
		{api.ErrType, "OUT(@Lib.Go())"},
		{api.ErrType, "OUT(1 + @One(2))"},
		{api.ErrType, "p := @Nop()"},
		{api.ErrType, "b := @Nop() = NIL"},
		{api.ErrType, "b := NIL = @Nop()"},
		{api.ErrType, "b := @Nop() IS Nix"},
		{api.ErrType, "One(@Nop())"},
		{api.ErrType, "Last(@Nop())"},
		{api.ErrType, "IF @Nop() THEN END"},
		{api.ErrName, "OUT(One(@nix))"},
		{api.ErrType, "@Num"},
		{api.ErrType, "@Num()"},
		{api.ErrType, "@Lib.Sum(NIL)"},
		{api.ErrType, "b := @Num()"},
		{api.ErrType, "Lib.Sum(@1)"},
		{api.ErrName, "Flag(@nix)"},
		{api.ErrKind, "OUT(@Num)"},
		{api.ErrType, "OUT(@Last(p))"},
	})
}
