package console_test

import (
	"strings"
	"testing"
)

// Q1: the document's example.
func TestExample(t *testing.T) {
	talk(t, []string{list, user},
		"check => ok",
		"face 0 => L|CONST two INTEGER 2|TYPE P* POINTER L.R|TYPE R* RECORD 2 v*:INTEGER@0 n*:L.P@1|TYPE Big RECORD 3 (L.R) more:INTEGER@2|VAR p L.P 0|PROCEDURE Push INTEGER",
		"key 0 => 845329167",
		"size 0 Big => 3 1",
		"print 1 => MODULE M;|IMPORT L;|VAR|  i: INTEGER;|PROCEDURE Go*;|BEGIN|  GET(i);|  WHILE i > 0 DO|    L.Push(i * L.two);|    i := i - 1|  END;|  OUT(L.p.v + 2 * 3);|  L.p := L.p.n|END Go;|END M.",
		"tidy 1 => MODULE M;|IMPORT L;|VAR|  i: INTEGER;|PROCEDURE Go*;|BEGIN|  GET(i);|  WHILE i > 0 DO|    L.Push(i * L.two);|    i := i - 1|  END;|  OUT(L.p.v + 6);|  L.p := L.p.n|END Go;|END M.",
		"heap 20 => ok",
		"do M Go 5 => ok",
		"do M Go 2 => ok",
		"collect => ok",
		"do M Nix => ok",
		"run => 0 0|0 0|0 15 8|8 18|0 15|9 15",
		"foo => bad")
}

// Q1, check: of all texts; of none.
func TestCheck(t *testing.T) {
	talk(t, nil, "check => ok")
	talk(t, []string{list, user, echo}, "check => ok", "check => ok")
	talk(t, []string{user, list}, "check => error 5 in 0 at 17")
	talk(t, []string{list, list}, "check => error 6 in 1 at 0")
	talk(t, []string{list, "MODULE M; VAR i: INTEGER; BEGIN i := TRUE END M."}, "check => error 7 in 1 at 37")
	talk(t, []string{"MODULE M; BEGIN x := 1 + END M."}, "check => error 4 in 0 at 25")
}

// Q1, face and key: of each text; what Check says of any of them.
func TestFaceAndKey(t *testing.T) {
	talk(t, []string{list, user, echo},
		"face 1 => M|PROCEDURE Go", "key 1 => 3126291315",
		"face 2 => E|PROCEDURE Six", "key 2 => 1468647547",
		"face 0 => L|CONST two INTEGER 2|TYPE P* POINTER L.R|TYPE R* RECORD 2 v*:INTEGER@0 n*:L.P@1|TYPE Big RECORD 3 (L.R) more:INTEGER@2|VAR p L.P 0|PROCEDURE Push INTEGER",
		"key 0 => 845329167")
	talk(t, []string{"MODULE M; END M."}, "face 0 => M", "key 0 => 4242498390")
	talk(t, []string{list, "MODULE M; END N."}, "face 0 => error 4 in 1 at 14", "key 0 => error 4 in 1 at 14", "face 1 => error 4 in 1 at 14", "key 1 => error 4 in 1 at 14")
}

// Q1, size: the words, then the list, also an empty one, and a long one.
func TestSize(t *testing.T) {
	talk(t, []string{list, "MODULE T; IMPORT L; TYPE Row = ARRAY 3 OF L.P; Nums* = ARRAY 64 OF INTEGER; E = RECORD END; S = RECORD (L.R) b: BOOLEAN; r: Row; l: L.P; END; END T."},
		"size 0 P => 1 0", "size 0 R => 2 1", "size 0 Big => 3 1",
		"size 1 Row => 3 0 1 2", "size 1 Nums => 64", "size 1 E => 0", "size 1 S => 7 1 3 4 5 6",
		"size 1 P => error 5", "size 0 Row => error 5", "size 0 two => error 5", "size 0 p => error 5", "size 0 INTEGER => error 5", "size 0 L.P => error 5", "size 0  => error 5")
	talk(t, []string{"MODULE M; TYPE A = ARRAY 0 OF INTEGER; B = RECORD END; END M."}, "size 0 B => error 3 in 0 at 19", "size 0 Nix => error 3 in 0 at 19")
}

// Q1, print and tidy: of a text alone: neither names nor types are looked at, nor other texts; a fault of Parse is one in 0, whichever text it is of.
func TestPrintAndTidy(t *testing.T) {
	talk(t, []string{"(", "MODULE M;(* c *)BEGIN x:=((1))+2*-3", "MODULE  N; IMPORT Nix; BEGIN x :=(1+2)  *y; WHILE 1 > 2 DO z END; a(~ TRUE ) END N.", "MODULE A; END A."},
		"print 0 => error 4 in 0 at 0", "tidy 0 => error 4 in 0 at 0",
		"print 1 => error 4 in 0 at 33", "tidy 1 => error 4 in 0 at 33",
		"print 2 => MODULE N;|IMPORT Nix;|BEGIN|  x := (1 + 2) * y;|  WHILE 1 > 2 DO|    z|  END;|  a(~TRUE)|END N.",
		"tidy 2 => MODULE N;|IMPORT Nix;|BEGIN|  x := 3 * y;|  a(FALSE)|END N.",
		"print 3 => MODULE A;|END A.", "tidy 3 => MODULE A;|END A.",
		"check => error 4 in 0 at 0")
	talk(t, []string{"MODULE M; BEGIN x := 1 + ", "MODULE M; BEGIN é END M.", "MODULE M; (* "},
		"print 0 => error 2 in 0 at 25", "tidy 1 => error 1 in 0 at 16", "print 2 => error 2 in 0 at 10")
}

// Q1, print and tidy: a text that would be too long to be told, by its levels alone; what is left out is not too long.
func TestTooLongToPrint(t *testing.T) {
	deep := strings.Repeat("REPEAT ", 15) + strings.Repeat("a;", 120) + strings.Repeat(" UNTIL b", 15)
	talk(t, []string{"MODULE M; BEGIN " + deep + " END M.", "MODULE M; BEGIN WHILE FALSE DO " + deep + " END END M."},
		"print 0 => error 3", "tidy 0 => error 3", "print 1 => error 3", "tidy 1 => MODULE M;|END M.", "check => error 5 in 0 at 121")
}

// Q1, heap: what is told is the heap of all that runs then; 200 at first.
func TestHeap(t *testing.T) {
	talk(t, []string{hoard}, "do H Fill => ok",
		"run => 0 0|8 200", "heap 7 => ok", "run => 0 0|8 7", "run => 0 0|8 7", "heap 0 => ok", "run => 0 0|8 0", "heap 4096 => ok", "run => 0 0|8 4096",
		"heap 4097 => error 3", "run => 0 0|8 4096", "heap 1 => ok", "heap -1 => error 3", "run => 0 0|8 1", "heap 4095 => ok", "run => 0 0|8 4095")
	talk(t, nil, "heap 3 => ok", text(hoard)+" => ok", "do H Fill => ok", "run => 0 0|8 3")
}

// Q1, do: deeds in their order, each with its own numbers; whether there is such a command is not asked.
func TestDo(t *testing.T) {
	talk(t, []string{echo},
		"do E Six 1 2 3 4 5 6 => ok", "do E Six => ok", "do E Six -7 0 -999999 999999 => ok", "do E Six 1 2 3 4 5 6 7 => ok", "do E Nix => ok", "do Nix Six 3 => ok", "do E six => ok", "do é ~ => ok",
		"run => 0 0|0 0 1 2 3 4 5 6|0 0 0 0 0 0 0 0|0 0 -7 0 -999999 999999 0 0|0 0 1 2 3 4 5 6|9 0|9 0|9 0|9 0",
		"do E Six 8 => ok",
		"run => 0 0|0 0 1 2 3 4 5 6|0 0 0 0 0 0 0 0|0 0 -7 0 -999999 999999 0 0|0 0 1 2 3 4 5 6|9 0|9 0|9 0|9 0|0 0 8 0 0 0 0 0")
	talk(t, nil, "do E Six 4 => ok", "run => 9 0", text(echo)+" => ok", "run => 0 0|0 0 4 0 0 0 0 0")
}

// Q1: collections, by their own line, by two empty words, and by these with numbers behind them.
func TestCollections(t *testing.T) {
	for _, line := range []string{"collect", "do  ", "do   5", "do   5 -6"} {
		talk(t, []string{hoard},
			"do H Link => ok", "do H Link => ok", line+" => ok", "do H Drop => ok", line+" => ok", "do H Link => ok",
			"run => 0 0|0 2|0 4|0 4|0 4|0 0|0 2")
	}
	talk(t, nil, "collect => ok", "do   => ok", "run => 0 0|0 0")
}

// Q1: one empty word alone makes no collection.
func TestHalfEmptyNames(t *testing.T) {
	talk(t, []string{hoard}, "do H Link => ok", "do H Drop => ok", "do H  => ok", "do  Drop => ok", "do H  1 => ok", "do  x 1 2 => ok", "run => 0 0|0 2|0 2|9 2|9 2|9 2|9 2")
}

// Q1, run: nothing at all; acts alone; each trap by its number.
func TestRun(t *testing.T) {
	talk(t, nil, "run =>", "run =>")
	talk(t, []string{"MODULE A; BEGIN OUT(1); OUT(-2147483647 - 1); OUT(2147483647) END A.", "MODULE B; END B.", "MODULE C; BEGIN OUT(5); ASSERT(FALSE); OUT(6) END C."},
		"run => 0 0 1 -2147483648 2147483647|0 0|5 0 5")
	talk(t, []string{`MODULE M; TYPE A = ARRAY 2 OF INTEGER; P = POINTER TO R; R = RECORD v: INTEGER; END; Q = POINTER TO S; S = RECORD (R) END; VAR a: A; p: P; i: INTEGER;
PROCEDURE nil*; BEGIN OUT(p.v) END nil;
PROCEDURE place*; BEGIN a[2] := 1 END place;
PROCEDURE guard*; BEGIN NEW(p); OUT(p{Q}.v) END guard;
PROCEDURE div*; BEGIN OUT(6 DIV i) END div;
PROCEDURE assert*; BEGIN OUT(7); ASSERT(FALSE) END assert;
PROCEDURE calls*; BEGIN calls END calls;
PROCEDURE ticks*; BEGIN WHILE TRUE DO END END ticks;
PROCEDURE full*; BEGIN WHILE TRUE DO NEW(p) END END full;
PROCEDURE lack(): INTEGER; BEGIN OUT(8) END lack;
PROCEDURE result*; BEGIN OUT(lack()) END result;
END M.`}, "heap 5 => ok", "do M nil => ok", "do M place => ok", "do M guard => ok", "do M div => ok", "do M assert => ok", "do M calls => ok", "do M ticks => ok", "do M full => ok", "do M none => ok", "do M result => ok", "do M lack => ok",
		"run => 0 0|1 0|2 0|3 2|4 2|5 2 7|6 2|7 2|8 4|9 4|10 4 8|9 4")
}

// Q1, run: it begins anew each time, and leaves texts, heap and script as they are.
func TestRunAgain(t *testing.T) {
	talk(t, []string{hoard}, "do H Link => ok", "run => 0 0|0 2", "run => 0 0|0 2", "do H Link => ok", "run => 0 0|0 2|0 4", "check => ok", "face 0 => H|TYPE P POINTER H.R|TYPE Q POINTER H.S|TYPE R RECORD 0|TYPE S RECORD 1 n:H.Q@0|PROCEDURE Fill|PROCEDURE Link|PROCEDURE Drop", "run => 0 0|0 2|0 4")
}

// Q1, clear: no texts, no script, and the heap that there was at first.
func TestClear(t *testing.T) {
	talk(t, nil, "clear => ok", "check => ok", "run =>")
	talk(t, []string{list, hoard, "wrong"}, "heap 9 => ok", "do H Fill => ok", "check => error 4 in 2 at 0",
		"clear => ok", "check => ok", "run =>", "face 0 => error 5", "print 0 => error 5", "do H Fill => ok", "run => 9 0",
		text(hoard)+" => ok", "face 0 => H|TYPE P POINTER H.R|TYPE Q POINTER H.S|TYPE R RECORD 0|TYPE S RECORD 1 n:H.Q@0|PROCEDURE Fill|PROCEDURE Link|PROCEDURE Drop", "face 1 => error 5", "run => 0 0|8 200",
		"clear => ok", "clear => ok", "run =>")
}
