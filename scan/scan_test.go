package scan

import (
	"fmt"
	"strings"
	"testing"

	"oberlin/api"
)

// theKept: the document's list, told once more, so that no word is lost from the program's.
var theKept = []string{"MODULE", "IMPORT", "CONST", "TYPE", "VAR", "PROCEDURE", "BEGIN", "END", "IF", "THEN", "ELSIF", "ELSE", "WHILE", "DO", "REPEAT", "UNTIL", "RETURN", "ARRAY", "OF", "RECORD", "POINTER", "TO", "NIL", "TRUE", "FALSE", "DIV", "MOD", "OR", "IS", "NEW", "OUT", "GET", "ASSERT"}

// A1: what is kept is no name.
func TestKeptWords(t *testing.T) {
	for _, w := range theKept {
		if !Kept(w) || Name(w) {
			t.Errorf("%s: kept %v, name %v", w, Kept(w), Name(w))
		}
		for _, near := range []string{strings.ToLower(w), w + "x", w + "1", "x" + w} {
			if Kept(near) || !Name(near) {
				t.Errorf("%s: kept %v, name %v", near, Kept(near), Name(near))
			}
		}
	}
	if n := len(NewLexicon().kept); n != len(theKept) {
		t.Errorf("%d kept words, not %d", n, len(theKept))
	}
}

// A1: names, with their edges.
func TestNames(t *testing.T) {
	for _, w := range []string{"a", "z", "A", "Z", "a0", "x9", "Ab1c", "INTEGER", "BOOLEAN", "iF", "abcdefghijkl", "a12345678901"} {
		if !Name(w) || Kept(w) {
			t.Errorf("%q: name %v, kept %v", w, Name(w), Kept(w))
		}
	}
	wrong := []string{"", "0", "1a", "a_b", "_a", "a b", " a", "a ", "a.b", "é", "aé", "a\xff", "\xff", "a\x00", "abcdefghijklm", "a123456789012", "@", "[", "`", "{", "a@", "a[", "a`", "a{", "a/", "a:", "+", ":="}
	for _, w := range wrong {
		if Name(w) || Kept(w) {
			t.Errorf("%q: name %v, kept %v", w, Name(w), Kept(w))
		}
	}
}

// tell: words with their places, or what is wrong.
func tell(text string) string {
	l, err := Tokens(text)
	if err != nil {
		e, in, at := api.Tell(err)
		return fmt.Sprintf("error %d in %d at %d, %d words", e, in, at, len(l))
	}
	var out []string
	for _, x := range l {
		out = append(out, fmt.Sprintf("%s@%d", x.Word, x.At))
	}
	return strings.Join(out, " ")
}

type scanCase struct{ text, want string }

func checkCases(t *testing.T, cases []scanCase) {
	t.Helper()
	for _, c := range cases {
		if got := tell(c.text); got != c.want {
			t.Errorf("%q: %s, not %s", c.text, got, c.want)
		}
	}
}

// A2: words, their places, the END.
func TestWords(t *testing.T) {
	checkCases(t, []scanCase{
		{"", "@0"},
		{"a:=(* c *)12", "a@0 :=@1 12@10 @12"},
		{" \t\r\na \t\r\n", "a@4 @9"},
		{"IF if If", "IF@0 if@3 If@6 @8"},
		{"a1b2", "a1b2@0 @4"},
		{"12ab34", "12@0 ab34@2 @6"},
		{"a.b^.c", "a@0 .@1 b@2 ^@3 .@4 c@5 @6"},
		{"ENDx END", "ENDx@0 END@5 @8"},
		{"007 0", "007@0 0@4 @5"},
	})
}

// A2: every sign, and the longest one that is there.
func TestSigns(t *testing.T) {
	for _, w := range strings.Fields(":= <= >= = # < > + - * & ~ ( ) [ ] { } , ; : . ^") {
		if got, want := tell(w), fmt.Sprintf("%s@0 @%d", w, len(w)); got != want {
			t.Errorf("%q: %s, not %s", w, got, want)
		}
	}
	checkCases(t, []scanCase{
		{":=<=>=", ":=@0 <=@2 >=@4 @6"},
		{"::==", ":@0 :=@1 =@3 @4"},
		{"<==", "<=@0 =@2 @3"},
		{"=<", "=@0 <@1 @2"},
		{"=>", "=@0 >@1 @2"},
		{"<>", "<@0 >@1 @2"},
		{": =", ":@0 =@2 @3"},
		{"a:b", "a@0 :@1 b@2 @3"},
		{"*)", "*@0 )@1 @2"},
		{"( *", "(@0 *@2 @3"},
	})
}

// A2: comments lie between words, and within one another.
func TestComments(t *testing.T) {
	checkCases(t, []scanCase{
		{"(**)", "@4"},
		{"a(**)b", "a@0 b@5 @6"},
		{"(* a (* b *) c *) d", "d@18 @19"},
		{"(*(**)*)x", "x@8 @9"},
		{"(*)*)x", "x@5 @6"},
		{"(***)x", "x@5 @6"},
		{"(* ! é \xff 99999999999 abcdefghijklm *)x", "x@38 @39"},
		{"((**))", "(@0 )@5 @6"},
		{"(**)(**)1", "1@8 @9"},
		{"(*\n*)\nx", "x@6 @7"},
	})
}

// A2: a comment that doesn't end is told at the first byte of the outermost one.
func TestCommentsWithoutEnd(t *testing.T) {
	checkCases(t, []scanCase{
		{"(*", "error 2 in 0 at 0, 0 words"},
		{"(*)", "error 2 in 0 at 0, 0 words"},
		{"a (* (* *)", "error 2 in 0 at 2, 0 words"},
		{"(* *) (* (* *) *", "error 2 in 0 at 6, 0 words"},
		{"(*(*)*)", "error 2 in 0 at 0, 0 words"},
		{"x (* ! ", "error 2 in 0 at 2, 0 words"},
		{"! (*", "error 1 in 0 at 0, 0 words"},
		{"(* *) ! (*", "error 1 in 0 at 6, 0 words"},
	})
}

// A2: bytes that begin no word.
func TestWrongSigns(t *testing.T) {
	for _, w := range []string{"!", "\"", "$", "%", "'", "/", "?", "@", "\\", "_", "`", "|", "\x00", "\x0b", "\x0c", "\x7f", "\x80", "\xff", "é", "\u00a0", "\ufeff"} {
		if got, want := tell("ab "+w+" !"), "error 1 in 0 at 3, 0 words"; got != want {
			t.Errorf("%q: %s, not %s", w, got, want)
		}
	}
	checkCases(t, []scanCase{
		{"a_b", "error 1 in 0 at 1, 0 words"},
		{"aé", "error 1 in 0 at 1, 0 words"},
		{"1é", "error 1 in 0 at 1, 0 words"},
	})
}

// A2: words that are too long, numbers that are too great; the first wrong thing counts.
func TestLimits(t *testing.T) {
	checkCases(t, []scanCase{
		{"abcdefghijkl", "abcdefghijkl@0 @12"},
		{" abcdefghijklm", "error 3 in 0 at 1, 0 words"},
		{" a12345678901", "a12345678901@1 @13"},
		{" a123456789012", "error 3 in 0 at 1, 0 words"},
		{"2147483647", "2147483647@0 @10"},
		{"- 2147483648", "error 3 in 0 at 2, 0 words"},
		{"0002147483647", "0002147483647@0 @13"},
		{"0002147483648", "error 3 in 0 at 0, 0 words"},
		{"99999999999999999999999999", "error 3 in 0 at 0, 0 words"},
		{"18446744073709551617", "error 3 in 0 at 0, 0 words"},
		{"abcdefghijklm !", "error 3 in 0 at 0, 0 words"},
		{"! abcdefghijklm", "error 1 in 0 at 0, 0 words"},
		{"9999999999 (*", "error 3 in 0 at 0, 0 words"},
	})
	noughts := strings.Repeat("0", api.MaxText-1)
	if got, want := tell(noughts+"7"), noughts+"7@0 @4000"; got != want {
		t.Errorf("noughts: %s", got)
	}
}

// A2: the text's own limit, a bare error ahead of all others.
func TestTextLimit(t *testing.T) {
	if got := tell(strings.Repeat(" ", api.MaxText)); got != "@4000" {
		t.Errorf("a text of MaxText bytes: %s", got)
	}
	for _, b := range []string{" ", "!", "a"} {
		l, err := Tokens(strings.Repeat(b, api.MaxText+1))
		if l != nil || err != error(api.ErrLimit) {
			t.Errorf("a text of more than MaxText bytes: %v, %v", l, err)
		}
	}
}

// Z2: what comes out is the caller's.
func TestTokensAreFresh(t *testing.T) {
	const text = "a := 1"
	l, _ := Tokens(text)
	want := fmt.Sprint(l)
	for i := range l {
		l[i] = api.Token{Word: "?", At: -1}
	}
	if again, _ := Tokens(text); fmt.Sprint(again) != want {
		t.Errorf("%v, not %s", again, want)
	}
}

func TestValue(t *testing.T) {
	for digits, want := range map[string]int{"0": 0, "7": 7, "0012": 12, "2147483647": api.MaxNumber} {
		if v, ok := Value(digits); !ok || v != want {
			t.Errorf("%s: %d, %v", digits, v, ok)
		}
	}
	for _, w := range []string{"", "-1", "+1", "a", "1a", " 1", "2147483648", "4294967296", "99999999999999999999"} {
		if v, ok := Value(w); ok || v != 0 {
			t.Errorf("%q: %d, %v", w, v, ok)
		}
	}
}

// Z1: no bytes make it panic or go on for ever; words cover all that is no blank and no comment.
func FuzzTokens(f *testing.F) {
	for _, s := range []string{"a:=(* c *)12", "(*)", "(* (* *)", "é", "2147483648", "<=>=:="} {
		f.Add(s)
	}
	f.Fuzz(func(t *testing.T, text string) {
		l, err := Tokens(text)
		if err != nil {
			if l != nil {
				t.Errorf("%q: words with an error", text)
			}
			return
		}
		if end := l[len(l)-1]; end != (api.Token{At: len(text)}) {
			t.Errorf("%q: the end is %v", text, end)
		}
		for _, x := range l {
			if !strings.HasPrefix(text[x.At:], x.Word) {
				t.Errorf("%q: no %q at %d", text, x.Word, x.At)
			}
		}
	})
}
