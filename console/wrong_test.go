package console_test

import (
	"slices"
	"strings"
	"testing"

	"oberlin/api"
)

// Q1: words that begin no line of the table.
func TestUnknownWords(t *testing.T) {
	for _, line := range []string{"foo", "Check", "CHECK", "checks", "chec", "check.", "text 1", "Text", "textt", "bad", "ok", "error 1", "too long", "field 0 R n", "load", "farm", "args", "fold 0", "0", "-1", "|", "M Go", "MODULE M; END M.", "é", "\xff", "\x00", "collection", "do,", "run|run"} {
		talk(t, []string{echo}, line+" => bad", "check => ok")
	}
}

// Q1: each word of the table with too few and too many behind it; of do any number from two on will do.
func TestHowManyWords(t *testing.T) {
	for word, count := range map[string]int{"check": 0, "face": 1, "key": 1, "size": 2, "print": 1, "tidy": 1, "heap": 1, "collect": 0, "run": 0, "clear": 0, "do": 2} {
		for given := range 8 {
			if given == count || word == "do" && given > count {
				continue
			}
			for _, x := range []string{" 0", " x", " ", " -", " 12345678"} {
				answers(t, text(echo)+"\n"+word+strings.Repeat(x, given)+"\ncheck", "ok", "bad", "ok")
			}
		}
	}
	for given := range 80 {
		answers(t, "do M P"+strings.Repeat(" 0", given), "ok")
	}
}

// right are words that tell numbers, wrongNumbers such that tell none.
func right() []string {
	return []string{"0", "1", "9", "10", "20", "99", "100", "1000", "99999", "100000", "123456", "999999", "-1", "-9", "-10", "-99999", "-100000", "-999999"}
}

func wrongNumbers() []string {
	return []string{"", "-", "--1", "-0", "00", "000000", "01", "-01", "-00", "007", "012345", "0000001", "1000000", "-1000000", "1234567", "0123456", "9999999999999999999999", "-9999999999999999999999", "18446744073709551617",
		"+1", "+0", "1-", "1+1", "x", "1x", "x1", "0x1", "0b1", "0o7", "1_0", "1e1", "1.0", ".5", "1.", "1,", "a", "A", "F", "½", "٣", "１", "²", "\xff", "\x00", "1\x00", "1\t", "\t1", "1\r", "NIL", "|"}
}

// Q1: numbers to be read, each as it was told; else ErrSign, and no deed.
func TestNumbersOfDeeds(t *testing.T) {
	for _, x := range right() {
		talk(t, []string{echo}, "do E Six "+x+" => ok", "do E Six 5 "+x+" 6 => ok", "run => 0 0|0 0 "+x+" 0 0 0 0 0|0 0 5 "+x+" 6 0 0 0")
	}
	for _, x := range wrongNumbers() {
		talk(t, []string{echo}, "do E Six "+x+" => error 1", "do E Six 5 "+x+" 6 => error 1", "do E Six 5 6 "+x+" => error 1", "do Nix Nix "+x+" => error 1", "do   "+x+" => error 1", "do E Six "+x+" "+x+" => error 1", "run => 0 0")
	}
}

// Q1: numbers of heaps: what is no number is told ahead of what is too little or too much.
func TestNumbersOfHeaps(t *testing.T) {
	for _, x := range []string{"0", "1", "9", "10", "100", "999", "1000", "4095", "4096"} {
		talk(t, []string{hoard}, "heap "+x+" => ok", "do H Fill => ok", "run => 0 0|8 "+x)
	}
	for _, x := range []string{"-1", "4097", "9999", "10000", "99999", "999999", "-4096", "-999999"} {
		talk(t, []string{hoard}, "heap "+x+" => error 3", "do H Fill => ok", "run => 0 0|8 200")
	}
	for _, x := range wrongNumbers() {
		talk(t, []string{hoard}, "heap "+x+" => error 1", "do H Fill => ok", "run => 0 0|8 200")
	}
}

// Q1: numbers of texts: ErrSign, then ErrName, then what is wrong with the texts, or a name.
func TestNumbersOfTexts(t *testing.T) {
	texts := []string{"MODULE A; END A.", "MODULE B; TYPE T = ARRAY 2 OF INTEGER; END B."}
	talk(t, texts, "face 0 => A", "face 1 => B|TYPE T ARRAY 2 INTEGER", "size 1 T => 2", "size 0 T => error 5", "print 0 => MODULE A;|END A.", "tidy 0 => MODULE A;|END A.")
	for _, all := range [][]string{nil, texts, {"MODULE A; END A.", "wrong"}, {"wrong", "MODULE A; END B."}} {
		for _, word := range []string{"face", "key", "print", "tidy"} {
			for _, x := range []string{"-1", "2", "6", "10", "999999", "-999999"} {
				talk(t, all, word+" "+x+" => error 5", "size "+x+" T => error 5")
			}
			for _, x := range wrongNumbers() {
				talk(t, all, word+" "+x+" => error 1", "size "+x+" T => error 1")
			}
		}
	}
}

// Q1: without texts there is none of any number.
func TestNoTexts(t *testing.T) {
	talk(t, nil, "face 0 => error 5", "key 0 => error 5", "size 0 T => error 5", "print 0 => error 5", "tidy 0 => error 5", "face x => error 1", "check => ok", "run =>")
	answers(t, "text\nMODULE A; END A.\nface 0")
}

// Q1: as many deeds as there may be, and one more, which is not there then; what is no number is told ahead.
func TestMostDeeds(t *testing.T) {
	for _, x := range []struct{ deed, event string }{{"do E Six", "|0 0 0 0 0 0 0 0"}, {"do E Six 0 0", "|0 0 0 0 0 0 0 0"}, {"collect", "|0 0"}, {"do  ", "|0 0"}, {"do Nix Nix", "|9 0"}} {
		run := "run => 0 0" + strings.Repeat(x.event, api.MaxDeeds-1)
		lines := append(same(x.deed+" => ok", api.MaxDeeds-1), run,
			"do E Six 4 => ok", "do E Six 5 => error 3", "collect => error 3", "do   => error 3", "do E Nix => error 3", "do E Six x => error 1", "do E Six 1234567 => error 1", "do E => bad", "collect 0 => bad", run+"|0 0 4 0 0 0 0 0",
			"clear => ok", text(echo)+" => ok", "do E Six 6 => ok", "run => 0 0|0 0 6 0 0 0 0 0")
		talk(t, []string{echo}, lines...)
		talk(t, []string{echo}, append(same("do E Six 1 => ok", api.MaxDeeds-1), x.deed+" => ok", x.deed+" => error 3", "do E Six => error 3", "run => 0 0"+strings.Repeat("|0 0 1 0 0 0 0 0", api.MaxDeeds-1)+x.event)...)
	}
}

// Q1: more numbers than a deed may read are told by run, not by do, and behind what is wrong with the texts.
func TestMostNumbers(t *testing.T) {
	most := "do E Six 7" + strings.Repeat(" 0", api.MaxDeeds-1)
	talk(t, []string{echo}, most+" => ok", "run => 0 0|0 0 7 0 0 0 0 0", most+" 0 => ok", "run => error 3", "collect => ok", "run => error 3", "check => ok", text("MODULE E; END E.")+" => ok", "run => error 6 in 1 at 0", "clear => ok", text(echo)+" => ok", "run => 0 0")
	talk(t, nil, "do  "+strings.Repeat(" 0", api.MaxDeeds+1)+" => ok", "run => error 3")
}

// Q1: what is wrong with the texts is told by all that need all of them, with its place; and not by others.
func TestWrongTexts(t *testing.T) {
	for _, x := range []struct{ text, want string }{
		{"MODULE M; BEGIN ! END M.", "error 1 in 1 at 16"},
		{"MODULE M; BEGIN", "error 2 in 1 at 15"},
		{"MODULE M; VAR abcdefghijklm: INTEGER; END M.", "error 3 in 1 at 14"},
		{"MODULE M; BEGIN x := 1 + END M.", "error 4 in 1 at 25"},
		{"MODULE M; IMPORT N; END M.", "error 5 in 1 at 17"},
		{"MODULE L; END L.", "error 6 in 1 at 0"},
		{"MODULE M; VAR i: INTEGER; BEGIN i := TRUE END M.", "error 7 in 1 at 37"},
		{"MODULE M; CONST c = 1; BEGIN c := 2 END M.", "error 8 in 1 at 29"},
	} {
		talk(t, []string{list, x.text, user}, "check => "+x.want, "face 0 => "+x.want, "face 1 => "+x.want, "key 2 => "+x.want, "size 0 R => "+x.want, "size 0 Nix => "+x.want, "size 1 R => "+x.want, "run => "+x.want,
			"print 0 => "+written(list), "heap 5 => ok", "do M Go 1 => ok", "collect => ok", "run => "+x.want, "face 3 => error 5", "key - => error 1", "clear => ok", "check => ok")
	}
}

// keeper: a module like user that drops no record.
const keeper = `MODULE M; IMPORT L; VAR i: INTEGER;
PROCEDURE Go*;
BEGIN GET(i); WHILE i > 0 DO L.Push(i * L.two); i := i - 1 END; OUT(L.p.v + 2 * 3)
END Go; END M.`

// Q1, Z1: an error changes nothing: neither texts nor script nor heap; nor does a bad line.
func TestErrorsChangeNothing(t *testing.T) {
	before := []string{"heap 4 => ok", "do M Go 1 => ok", "do M Go 1 => ok", "collect => ok"}
	after := []string{"run => 0 0|0 0|0 3 8|8 3|0 3", "face 1 => M|PROCEDURE Go", "key 0 => 845329167", "face 2 => error 5"}
	for _, x := range []string{"face 7 => error 5", "face x => error 1", "key -1 => error 5", "size 0 Nix => error 5", "size 00 R => error 1", "print 9 => error 5", "tidy é => error 1", "heap 4097 => error 3", "heap -1 => error 3", "heap 07 => error 1",
		"do M Go 1 x => error 1", "do M Go 1234567 => error 1", "do   x => error 1", "do M => bad", "heap => bad", "heap 1 2 => bad", "clear 1 => bad", " clear => bad", "clear  => bad", "collect 1 => bad", "collect  => bad", "text  => bad", "text 1 => bad", ". => bad", " => bad"} {
		talk(t, []string{list, keeper}, slices.Concat(before, []string{x}, after)...)
	}
}
