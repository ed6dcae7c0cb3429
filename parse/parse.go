// Package parse: trees of texts: see the document's chapter.
package parse

import (
	"oberlin/api"
	"oberlin/scan"
)

// Parse is the tree of a text.
func Parse(text string) (n api.Node, err error) {
	tokens, err := scan.Tokens(text)
	if err != nil {
		return api.Node{}, err
	}
	defer func() {
		if fault, ok := recover().(*api.Fault); ok {
			n, err = api.Node{}, fault
		}
	}()
	p := parser{tokens: tokens, lexicon: scan.NewLexicon()}
	return p.whole(), nil
}

// parser reads words from the left, by one word ahead. Its methods read what they are named for, or throw a fault at the next word.
type parser struct {
	tokens  []api.Token
	next    int
	deep    int
	lexicon scan.Lexicon
}

// word is the next one, which isn't read by that; empty at the end of the text.
func (p *parser) word() string { return p.tokens[p.next].Word }

func (p *parser) at() int { return p.tokens[p.next].At }

// take reads a word, but never the end of the text: there is always a next word.
func (p *parser) take() string {
	w := p.word()
	if w != "" {
		p.next++
	}
	return w
}

// throw tells Parse what is wrong at the next word.
func (p *parser) throw(e api.Errno) { panic(&api.Fault{At: p.at(), Err: e}) }

// refuse throws that no rule can go on with the next word.
func (p *parser) refuse() {
	if p.word() == "" {
		p.throw(api.ErrShort)
	}
	p.throw(api.ErrWord)
}

// has reads the next word, if it is this one.
func (p *parser) has(w string) bool {
	if p.word() != w {
		return false
	}
	p.take()
	return true
}

// want reads the next word, which must be this one.
func (p *parser) want(w string) {
	if !p.has(w) {
		p.refuse()
	}
}

func (p *parser) nameIsNext() bool { return p.lexicon.Name(p.word()) }

func (p *parser) name() string {
	if !p.nameIsNext() {
		p.refuse()
	}
	return p.take()
}

func (p *parser) number() int {
	value, ok := scan.Value(p.word())
	if !ok {
		p.refuse()
	}
	p.take()
	return value
}

// node that begins with the next word.
func (p *parser) node(kind int) api.Node { return api.Node{Kind: kind, At: p.at()} }

// named is a node that begins with its name.
func (p *parser) named(kind int) api.Node {
	n := p.node(kind)
	n.Name = p.name()
	return n
}

// marked is a node with a name, behind which a star may stand.
func (p *parser) marked(kind int) api.Node {
	n := p.named(kind)
	if p.has("*") {
		n.Num = 1
	}
	return n
}

// several reads parts that go by one rule, with a sign between them.
func (p *parser) several(part func() api.Node, between string) []api.Node {
	l := []api.Node{part()}
	for p.has(between) {
		l = append(l, part())
	}
	return l
}

// bracketed reads several parts, or none, in brackets.
func (p *parser) bracketed(part func() api.Node, between string) []api.Node {
	p.want("(")
	if p.has(")") {
		return nil
	}
	l := p.several(part, between)
	p.want(")")
	return l
}

// within reads a part that stands one level deeper than what is being read.
func (p *parser) within(part func() api.Node) api.Node {
	p.deep++
	if p.deep > api.MaxDeep {
		p.throw(api.ErrLimit)
	}
	n := part()
	p.deep--
	return n
}
