package check_test

import (
	"math/rand"
	"strings"
	"testing"

	"oberlin/api"
	"oberlin/check"
	"oberlin/parse"
	"oberlin/print"
	"oberlin/scan"
)

// words that random texts are made of: those of the language, and names of lib and of the fixed things.
const words = "MODULE IMPORT CONST TYPE VAR PROCEDURE BEGIN END IF THEN ELSIF ELSE WHILE DO REPEAT UNTIL RETURN ARRAY OF RECORD POINTER TO NIL TRUE FALSE DIV MOD OR IS NEW OUT GET ASSERT" +
	" := <= >= = # < > + - * & ~ ( ) [ ] { } , ; : . ^ 0 1 2 64 65 INTEGER BOOLEAN Lib X P R Big BigP Row top low five on Own OwnP i j b p big o op f line many r v n h mine Nop One Two Num Last ByR Sum Put Set nix"

// wellTold holds what Check tells of texts against what is true of all of them.
func wellTold(t *testing.T, texts []string) {
	t.Helper()
	err := check.Check(texts)
	e, text, at := api.Tell(err)
	if err == nil || len(texts) > api.MaxModules {
		return
	}
	if text < 0 || text >= len(texts) || at < 0 || at > len(texts[text]) || e <= api.OK || e > api.ErrFull {
		t.Fatalf("%q: error %d in %d at %d", texts, e, text, at)
	}
	if err := check.Check(texts[:text]); err != nil {
		t.Fatalf("%q: the first wrong text is told as %d, and then: %v", texts, text, err)
	}
	if again := check.Check(texts[:text+1]); again == nil || again.Error() != err.Error() {
		t.Fatalf("%q: %v, and without what is behind it %v", texts, err, again)
	}
	toldAtWord(t, texts[text], at)
	stillTold(t, texts, e, text)
}

// toldAtWord: of a text that has a tree the place is that of a word.
func toldAtWord(t *testing.T, text string, at int) {
	t.Helper()
	if _, err := parse.Parse(text); err != nil {
		return
	}
	tokens, _ := scan.Tokens(text)
	for _, x := range tokens {
		if x.At == at {
			return
		}
	}
	t.Fatalf("%q: something is told at %d, where no word begins", text, at)
}

// stillTold: what is wrong hangs on the tree alone, so it is still wrong once a text is written as print writes it.
func stillTold(t *testing.T, texts []string, e api.Errno, text int) {
	t.Helper()
	tree, err := parse.Parse(texts[text])
	if err != nil {
		return
	}
	written, err := print.Text(tree)
	if err != nil {
		return
	}
	l := append(append([]string{}, texts[:text]...), written)
	if got, number, _ := api.Tell(check.Check(l)); got != e || number != text {
		t.Fatalf("%q: error %d in %d, and written anew error %d in %d", texts, e, text, got, number)
	}
}

// swapped is a text with some of its words put for others.
func swapped(r *rand.Rand, text string, count int) string {
	tokens, _ := scan.Tokens(text)
	all := strings.Fields(words)
	var l []string
	for _, x := range tokens {
		l = append(l, x.Word)
	}
	for range count {
		i := r.Intn(len(l))
		switch r.Intn(3) {
		case 0:
			l[i] = all[r.Intn(len(all))]
		case 1:
			l[i] = l[r.Intn(len(l))]
		case 2:
			l[i] = ""
		}
	}
	return strings.Join(l, " ")
}

// Z1, D1: whatever is changed in a text, something is told, and of the first text that is wrong.
func TestRandomTexts(t *testing.T) {
	r := rand.New(rand.NewSource(8))
	right := inX(fixed + "i := -i + five; IF p IS OwnP THEN p{OwnP}.mine := Lib.Sum(p) ELSIF b THEN Two(1, line[i]) END; WHILE p # NIL DO p := p.n END; Lib.Put(Lib.row, i); NEW(op); ByR(op^)")
	behind := "MODULE Y; IMPORT X, Lib; BEGIN Lib.Go END Y."
	kinds := map[api.Errno]int{}
	for range 3000 {
		l := []string{lib, swapped(r, right, 1+r.Intn(2)), behind}
		wellTold(t, l)
		e, _, _ := api.Tell(check.Check(l))
		kinds[e]++
	}
	for _, e := range []api.Errno{api.OK, api.ErrName, api.ErrTwice, api.ErrType, api.ErrKind, api.ErrWord} {
		if kinds[e] == 0 {
			t.Errorf("no text with error %d was among them", e)
		}
	}
}

// Z1: trees that are as deep and as long as texts can make them are gone through, too.
func TestDeepTexts(t *testing.T) {
	deep := api.MaxDeep - 2
	expect(t, api.OK, inM("VAR i: INTEGER; BEGIN i := "+strings.Repeat("(", deep)+"i"+strings.Repeat(")", deep)))
	expect(t, api.ErrType, inM("VAR i: INTEGER; BEGIN i := "+strings.Repeat("~", deep)+"@i"))
	expect(t, api.ErrType, inM("VAR i: INTEGER; BEGIN i := i"+strings.Repeat(" + i", api.MaxDeep-1)+" + @NIL"))
	expect(t, api.ErrName, inM("BEGIN "+strings.Repeat("IF TRUE THEN ", deep)+"@nix"+strings.Repeat(" END", deep)))
	fields := "TYPE Q = POINTER TO N; N = RECORD n: Q; i: INTEGER; END; VAR q: Q; BEGIN OUT(q" + strings.Repeat(".n", api.MaxDeep-1)
	expect(t, api.OK, "MODULE M; "+fields+".i) END M.")
	expect(t, api.ErrType, "MODULE M; "+strings.Replace(fields, "OUT(", "OUT(@", 1)+".n) END M.")
	chain := "TYPE a = RECORD x: INTEGER; END; " + several(100, func(i int) string { return "t" + letters(i+1) + " = RECORD (" + below(i) + ") END; " })
	expect(t, api.OK, "MODULE M; "+chain+"VAR v: t"+letters(100)+"; BEGIN OUT(v.x) END M.")
	expect(t, api.ErrName, "MODULE M; "+chain+"VAR v: t"+letters(100)+"; BEGIN OUT(@v.y) END M.")
}

// below is the name of the record that record number i of a chain extends.
func below(i int) string {
	if i == 0 {
		return "a"
	}
	return "t" + letters(i)
}

func FuzzCheck(f *testing.F) {
	f.Add(lib, inX(fixed))
	f.Add(lib, inX("VAR p: Lib.P; BEGIN p := nix"))
	f.Add("MODULE A; CONST c* = 1; END A.", "MODULE B; IMPORT A; CONST d = A.c DIV 0; END B.")
	f.Fuzz(func(t *testing.T, first, second string) {
		wellTold(t, []string{first, second})
		wellTold(t, []string{lib, first, second})
	})
}
