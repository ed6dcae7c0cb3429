package scan

import (
	"strings"

	"oberlin/api"
)

const keptWords = "MODULE IMPORT CONST TYPE VAR PROCEDURE BEGIN END IF THEN ELSIF ELSE WHILE DO REPEAT UNTIL RETURN" +
	" ARRAY OF RECORD POINTER TO NIL TRUE FALSE DIV MOD OR IS NEW OUT GET ASSERT"

// Lexicon has the kept words. Who asks of many words makes one and keeps it, since it takes longer to make than to ask.
type Lexicon struct {
	kept map[string]struct{}
}

// NewLexicon is a lexicon with all kept words.
func NewLexicon() Lexicon {
	kept := map[string]struct{}{}
	for _, w := range strings.Fields(keptWords) {
		kept[w] = struct{}{}
	}
	return Lexicon{kept: kept}
}

// Kept says whether a word is kept for the language.
func (l Lexicon) Kept(w string) bool {
	_, ok := l.kept[w]
	return ok
}

// Name says whether a word is a name.
func (l Lexicon) Name(w string) bool {
	if w == "" || len(w) > api.MaxName {
		return false
	}
	for i, r := range w {
		if !letter(r) && (i == 0 || !digit(r)) {
			return false
		}
	}
	return !l.Kept(w)
}
