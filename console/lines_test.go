package console_test

import (
	"slices"
	"strings"
	"testing"

	"oberlin/api"
)

// Q1: a session of just MaxText bytes, and of one more, which is not looked at; bytes count, not letters.
func TestTooLong(t *testing.T) {
	lines := api.MaxText / len("check\n")
	most := strings.Repeat("check\n", lines) + strings.Repeat("x", api.MaxText%len("check\n"))
	answers(t, most, append(same("ok", lines), "bad")...)
	answers(t, most+"x", "too long")
	answers(t, most+"\n", "too long")
	answers(t, strings.Repeat("x", api.MaxText), "bad")
	answers(t, strings.Repeat("x", api.MaxText-1)+"\n", "bad")
	answers(t, strings.Repeat("x", api.MaxText)+"\n", "too long")
	answers(t, strings.Repeat("\n", api.MaxText), same("bad", api.MaxText)...)
	answers(t, strings.Repeat("\n", api.MaxText+1), "too long")
	answers(t, strings.Repeat("é", api.MaxText/2), "bad")
	answers(t, strings.Repeat("é", api.MaxText/2)+"x", "too long")
	answers(t, strings.Repeat("check\n", 100*lines), "too long")
	answers(t, "text\n"+strings.Repeat("x", api.MaxText-5))
	answers(t, "text\n"+strings.Repeat("x", api.MaxText-4), "too long")
}

// Q1: a newline at the end begins no further line; two of them begin one.
func TestNewlineAtTheEnd(t *testing.T) {
	answers(t, "check", "ok")
	answers(t, "check\n", "ok")
	answers(t, "check\n\n", "ok", "bad")
	answers(t, "check\n\n\n", "ok", "bad", "bad")
	answers(t, "check\nrun", "ok", "")
	answers(t, "check\nrun\n", "ok", "")
	answers(t, "\ncheck", "bad", "ok")
	for _, end := range []string{"", "\n"} {
		answers(t, text(echo)+end, "ok")
		answers(t, text(echo)+"\ncheck"+end, "ok", "ok")
	}
}

// Q1: an empty line is a line, whose only word is empty; so it is in a session that is nothing else.
func TestEmptyLines(t *testing.T) {
	answers(t, "", "bad")
	answers(t, "\n", "bad")
	answers(t, "\n\n", "bad", "bad")
	answers(t, "check\n\n\ncheck", "ok", "bad", "bad", "ok")
}

// Q1: only newlines part lines, and only blanks part words.
func TestOtherSpace(t *testing.T) {
	for _, space := range []string{"\t", "\r", "\v", "\f", "\x00", "\u00a0", "\u2028"} {
		answers(t, "check"+space, "bad")
		answers(t, space+"check", "bad")
		answers(t, "check"+space+"check", "bad")
		answers(t, "heap"+space+"5", "bad")
		answers(t, "heap 5"+space, "error 1")
		answers(t, "text"+space+"\ncheck", "bad", "ok")
		answers(t, "text\n."+space+"\ncheck")
	}
	answers(t, "check\r\ncheck\r\n", "bad", "bad")
}

// Q1: blanks side by side have empty words between them.
func TestBlanks(t *testing.T) {
	talk(t, []string{echo},
		" => bad", "  => bad", " check => bad", "check  => bad", "  check   => bad", "run  => bad", "clear  => bad", "collect  => bad",
		"face  0 => bad", " face 0 => bad", "face 0  => bad", "key  0 => bad", "print 0  => bad", "tidy  => error 1", "face  => error 1", "heap  => error 1", "heap  5 => bad", "heap 5  => bad",
		"size  0 E => bad", "size 0  E => bad", "size 0 E  => bad", "size   => error 1", "size  E => error 1",
		"do  => bad", "do E  Six => error 1", "do  E Six => error 1", "do E Six  => error 1", "do E Six  1 => error 1", "do E Six 1  2 => error 1", "do E Six 1  => error 1", "do    => error 1", "do     => error 1",
		" text => bad", "text  => bad", "check => ok", "run => 0 0")
}

// Q1: lines of a text have a newline between them, and none behind the last.
func TestLinesOfTexts(t *testing.T) {
	for _, x := range []struct{ lines, want string }{
		{"MODULE M;", "error 2 in 0 at 9"},
		{"MODULE M;\n", "error 2 in 0 at 10"},
		{"\nMODULE M;\n\n", "error 2 in 0 at 12"},
		{"MODULE M;\n\nBEGIN x := 1 END M.", "error 5 in 0 at 17"},
		{"MODULE\nM;\nEND\nM\n.x", "error 4 in 0 at 17"},
		{"MODULE M; CONST a = (* \n\n\n *) b; END M.", "error 5 in 0 at 30"},
		{"", "error 2 in 0 at 0"},
		{"\n", "error 2 in 0 at 1"},
		{"MODULE M;\r\nEND M.\r", "ok"},
	} {
		talk(t, []string{x.lines}, "check => "+x.want)
	}
	answers(t, "text\n.\ncheck", "ok", "error 2 in 0 at 0")
	answers(t, "text\n.\ntext\n.\ncheck\nprint 1", "ok", "ok", "error 2 in 0 at 0", "error 2 in 0 at 0")
}

// Q1: within a text no line has an answer but the dot; what is not a dot alone belongs to it.
func TestWithinTexts(t *testing.T) {
	inside := "text\ncheck\nclear\n\nheap 3\n..\n. \n .\n.x\nfoo bar\nclear"
	talk(t, []string{list, inside, list}, "check => error 4 in 1 at 0", "print 0 => "+written(list), "print 1 => error 4 in 0 at 0", "print 2 => "+written(list), "face 3 => error 5")
	talk(t, nil, text("MODULE M; BEGIN\n..\nEND M\n")+" => ok", "check => error 4 in 0 at 16", ". => bad", "check => error 4 in 0 at 16")
	talk(t, []string{"MODULE M; BEGIN OUT(1) END M\n ."}, "run => 0 0 1")
}

// Q1: each text ends at its own dot; the next one has nothing of it.
func TestTextsOneByOne(t *testing.T) {
	talk(t, []string{"MODULE A; END A."}, "check => ok", text("MODULE B;\nIMPORT A; END B.")+" => ok", "check => ok", "print 1 => MODULE B;|IMPORT A;|END B.", text("MODULE A;\n")+" => ok", "check => error 2 in 2 at 10", "print 0 => MODULE A;|END A.")
}

// Q1: what has no dot is no text, and its lines have no answers.
func TestNoDot(t *testing.T) {
	answers(t, "text")
	answers(t, "text\n")
	answers(t, "text\n\n")
	answers(t, "text\nMODULE M; END M.\n")
	answers(t, "check\ntext\ncheck\nrun\n", "ok")
	answers(t, text(list)+"\ncheck\ntext\n"+user, "ok", "ok")
	answers(t, "text\n. \n..\ncheck\n.x")
}

// Q1: a dot beside texts is a line like others.
func TestLonelyDot(t *testing.T) {
	answers(t, ".", "bad")
	answers(t, ".\n.\ncheck", "bad", "bad", "ok")
	answers(t, text(echo)+"\n.\ncheck\nface 1", "ok", "bad", "ok", "error 5")
}

// six are as many texts as there may be.
func six() (l []string) {
	for _, x := range "ABCDEF" {
		l = append(l, "MODULE "+string(x)+"; END "+string(x)+".")
	}
	return l
}

// Q1: as many texts as there may be; then the line text begins none, and what follows it has answers.
func TestMostTexts(t *testing.T) {
	if len(six()) != api.MaxModules {
		t.Fatal("other texts are wanted")
	}
	talk(t, six()[:5], "face 4 => E", "face 5 => error 5", text(six()[5])+" => ok", "face 5 => F", "check => ok")
	talk(t, six(), "check => ok", "face 5 => F", "text => bad", "check => ok", ". => bad", "text => bad", "text => bad", "MODULE G; END G. => bad", "foo => bad", "face 5 => F", "face 6 => error 5", "run => 0 0|0 0|0 0|0 0|0 0|0 0",
		"clear => ok", text(echo)+" => ok", "face 0 => E|PROCEDURE Six", "face 1 => error 5")
	talk(t, slices.Repeat([]string{"wrong"}, api.MaxModules), "text => bad", "print 5 => error 4 in 0 at 0", "clear => ok", text("MODULE A; END A.")+" => ok", "check => ok")
}

// written is the answer to print of one of the modules.
func written(module string) string {
	if module != list {
		panic("another one is written nowhere")
	}
	return "MODULE L;|CONST|  two* = 1 + 1;|TYPE|  P* = POINTER TO R;|  R* = RECORD v*: INTEGER; n*: P; END;|  Big = RECORD (R) more: INTEGER; END;|VAR|  p*: P;|PROCEDURE Push*(x: INTEGER);|VAR|  q: P;|BEGIN|  NEW(q);|  q.v := x;|  q.n := p;|  p := q|END Push;|END L."
}
