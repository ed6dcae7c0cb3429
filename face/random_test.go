package face_test

import (
	"hash/fnv"
	"strings"
	"testing"

	"oberlin/face"
	"oberlin/parse"
	"oberlin/print"
)

// F1, F2, Z1: whatever the text is, its face has a line for each thing, and its key is that text's number; and it is the same of the text as it is printed.
func FuzzOf(f *testing.F) {
	f.Add(whole)
	for _, text := range lib {
		f.Add(text)
	}
	f.Add("MODULE M; IMPORT A, B; TYPE T = RECORD (B.S) END; VAR a*: T; PROCEDURE f*(VAR x: T): A.P; BEGIN RETURN a.w[0] END f; END M.")
	f.Fuzz(func(t *testing.T, text string) {
		texts := append(append([]string{}, lib...), text)
		shown, err := face.Of(texts, 2)
		key, keyErr := face.Key(texts, 2)
		if err != nil || keyErr != nil {
			if err == nil || keyErr == nil || err.Error() != keyErr.Error() || shown != "" || key != 0 {
				t.Errorf("%q, %v; %d, %v", shown, err, key, keyErr)
			}
			return
		}
		h := fnv.New32a()
		h.Write([]byte(shown))
		if key != int(h.Sum32()) {
			t.Errorf("%q has %d, wanted %d", shown, key, h.Sum32())
		}
		holdLines(t, shown)
		tree, _ := parse.Parse(text)
		if printed, err := print.Text(tree); err == nil {
			texts[2] = printed
			if other, err := face.Of(texts, 2); err != nil || other != shown {
				t.Errorf("%q, as printed %q, %v", shown, other, err)
			}
		}
	})
}

// holdLines asks whether all lines of a face begin as they should, and end.
func holdLines(t *testing.T, shown string) {
	t.Helper()
	l := strings.Split(shown, "\n")
	if len(l) < 2 || l[len(l)-1] != "" {
		t.Fatalf("%q doesn't end with a newline", shown)
	}
	last := 0
	for i, s := range l[:len(l)-1] {
		word, _, found := strings.Cut(s, " ")
		place := strings.Index("CONST TYPE VAR PROCEDURE", word)
		if i == 0 && found || i > 0 && (!found || place < last || strings.HasSuffix(s, " ")) {
			t.Fatalf("line %d of %q", i, shown)
		}
		last = max(place, 0)
	}
}
