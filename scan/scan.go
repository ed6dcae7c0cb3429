// Package scan: words of a text: see the document's chapter.
package scan

import (
	"strings"

	"oberlin/api"
)

// Kept says whether a word is kept for the language.
func Kept(w string) bool { return NewLexicon().Kept(w) }

// Name says whether a word is a name.
func Name(w string) bool { return NewLexicon().Name(w) }

// Tokens of a text; the last one is its end.
func Tokens(text string) (tokens []api.Token, err error) {
	if len(text) > api.MaxText {
		return nil, api.ErrLimit
	}
	defer func() {
		if fault, ok := recover().(*api.Fault); ok {
			tokens, err = nil, fault
		}
	}()
	s := scanner{text: text}
	return s.tokens(), nil
}

// scanner goes through a text from the left.
type scanner struct {
	text string
	at   int
}

func (s *scanner) tokens() []api.Token {
	var l []api.Token
	for s.skip(); s.at < len(s.text); s.skip() {
		w := s.word()
		l = append(l, api.Token{Word: w, At: s.at})
		s.at += len(w)
	}
	return append(l, api.Token{At: s.at})
}

func (s *scanner) rest() string { return s.text[s.at:] }

// throw tells what is wrong to Tokens, from however deep.
func (s *scanner) throw(at int, e api.Errno) { panic(&api.Fault{At: at, Err: e}) }

// skip goes on to the next word, or to the text's end.
func (s *scanner) skip() {
	for s.at < len(s.text) {
		switch {
		case blank(s.text[s.at]):
			s.at++
		case strings.HasPrefix(s.rest(), "(*"):
			s.skipComment()
		default:
			return
		}
	}
}

// skipComment takes both bytes of a sign at once: the star of "(*)" ends nothing.
func (s *scanner) skipComment() {
	first := s.at
	deep := 0
	for s.at < len(s.text) {
		switch {
		case strings.HasPrefix(s.rest(), "(*"):
			deep++
			s.at += 2
		case strings.HasPrefix(s.rest(), "*)"):
			deep--
			s.at += 2
		default:
			s.at++
		}
		if deep == 0 {
			return
		}
	}
	s.throw(first, api.ErrShort)
}

// word is the longest word that begins here.
func (s *scanner) word() string {
	rest := s.rest()
	switch first := rune(rest[0]); {
	case letter(first):
		w := lead(rest, letterOrDigit)
		if len(w) > api.MaxName {
			s.throw(s.at, api.ErrLimit)
		}
		return w
	case digit(first):
		w := lead(rest, digit)
		if _, ok := Value(w); !ok {
			s.throw(s.at, api.ErrLimit)
		}
		return w
	}
	w := sign(rest)
	if w == "" {
		s.throw(s.at, api.ErrSign)
	}
	return w
}

const signs = "=#<>+-*&~()[]{},;:.^"

// sign that a text begins with; empty, if it begins with none.
func sign(text string) string {
	if len(text) > 1 {
		switch pair := text[:2]; pair {
		case ":=", "<=", ">=":
			return pair
		}
	}
	if strings.IndexByte(signs, text[0]) >= 0 {
		return text[:1]
	}
	return ""
}

// lead is the part of a text ahead of the first rune that doesn't belong to it.
func lead(text string, belongs func(rune) bool) string {
	for i, r := range text {
		if !belongs(r) {
			return text[:i]
		}
	}
	return text
}

func blank(b byte) bool { return b == ' ' || b == '\t' || b == '\r' || b == '\n' }

func letter(r rune) bool { return 'a' <= r && r <= 'z' || 'A' <= r && r <= 'Z' }

func digit(r rune) bool { return '0' <= r && r <= '9' }

func letterOrDigit(r rune) bool { return letter(r) || digit(r) }

// Value of digits; not ok, if they are none, or tell more than MaxNumber.
func Value(digits string) (value int, ok bool) {
	for _, r := range digits {
		if !digit(r) {
			return 0, false
		}
		d := int(r - '0')
		if value > (api.MaxNumber-d)/10 {
			return 0, false
		}
		value = value*10 + d
	}
	return value, digits != ""
}
