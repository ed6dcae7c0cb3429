package print

import (
	"oberlin/api"
	"oberlin/scan"
)

// rule says whether a node may stand where it stands, as far as it can be seen without the nodes below it, and puts those down with their own rules.
type rule func(api.Node) bool

// part of a tree that is still to be looked at.
type part struct {
	node api.Node
	rule rule
}

// judge looks at the shape of a tree. What is left to be looked at stands in a list, since a tree may be deeper than calls can be.
type judge struct {
	scan.Lexicon
	operators map[string]rank
	parts     []part
}

// formed says whether a tree has the shape of some text's tree, and how many nodes it has.
func formed(n api.Node) (count int, ok bool) {
	j := judge{Lexicon: scan.NewLexicon(), operators: operators()}
	j.put(n, j.module)
	for len(j.parts) > 0 {
		last := len(j.parts) - 1
		p := j.parts[last]
		j.parts = j.parts[:last]
		if !p.rule(p.node) {
			return 0, false
		}
		count++
	}
	return count, true
}

func (j *judge) put(n api.Node, r rule) { j.parts = append(j.parts, part{n, r}) }

// each puts all of several nodes down by one rule.
func (j *judge) each(l []api.Node, r rule) bool {
	for _, n := range l {
		j.put(n, r)
	}
	return true
}

// below: there are as many nodes below as there are rules, each for one of them.
func (j *judge) below(n api.Node, rules ...rule) bool {
	if len(n.Subs) != len(rules) {
		return false
	}
	for i, r := range rules {
		j.put(n.Subs[i], r)
	}
	return true
}

// first: there is a node below by this rule, and all behind it are by the other one.
func (j *judge) first(n api.Node, r, others rule) bool {
	if len(n.Subs) == 0 {
		return false
	}
	j.put(n.Subs[0], r)
	return j.each(n.Subs[1:], others)
}

// named: it has a name, and a number that is at most this.
func (j *judge) named(n api.Node, most int) bool { return j.Name(n.Name) && within(n, most) }

// unnamed: it has no name, and a number that is at most this.
func unnamed(n api.Node, most int) bool { return n.Name == "" && within(n, most) }

func within(n api.Node, most int) bool { return 0 <= n.Num && n.Num <= most }

// list is a rule for a list of nodes that go by one rule.
func (j *judge) list(r rule) rule {
	return func(n api.Node) bool {
		return n.Kind == api.List && unnamed(n, 0) && j.each(n.Subs, r)
	}
}

// declared is a rule for a node with a name, a number that is at most this, and a part below it.
func (j *judge) declared(kind, most int, r rule) rule {
	return func(n api.Node) bool {
		return n.Kind == kind && j.named(n, most) && j.below(n, r)
	}
}

func (j *judge) module(n api.Node) bool {
	return n.Kind == api.Module && j.named(n, 0) && j.below(n,
		j.list(j.imported),
		j.list(j.declared(api.Const, 1, j.expression)),
		j.list(j.declared(api.Named, 1, j.typeItself)),
		j.list(j.declared(api.Var, 1, j.typeName)),
		j.list(j.procedure),
		j.list(j.act))
}

func (j *judge) imported(n api.Node) bool {
	return n.Kind == api.Import && j.named(n, 0) && j.below(n)
}

func (j *judge) procedure(n api.Node) bool {
	return n.Kind == api.Proc && j.named(n, 1) && j.below(n,
		j.list(j.declared(api.Param, 1, j.typeName)),
		j.typeNameOrNone,
		j.list(j.declared(api.Var, 0, j.typeName)),
		j.list(j.act))
}

func (j *judge) typeItself(n api.Node) bool {
	switch n.Kind {
	case api.Array:
		return unnamed(n, api.MaxNumber) && j.below(n, j.typeName)
	case api.Pointer:
		return unnamed(n, 0) && j.below(n, j.typeName)
	case api.Record:
		return unnamed(n, 0) && j.first(n, j.typeNameOrNone, j.declared(api.Field, 1, j.typeName))
	}
	return false
}

func (j *judge) typeName(n api.Node) bool {
	return n.Kind == api.TypeName && j.named(n, 0) && len(n.Subs) <= 1 && j.each(n.Subs, j.ref)
}

func (j *judge) typeNameOrNone(n api.Node) bool {
	if n.Kind == api.None {
		return unnamed(n, 0) && j.below(n)
	}
	return j.typeName(n)
}

func (j *judge) ref(n api.Node) bool {
	return n.Kind == api.Ref && j.named(n, 0) && j.below(n)
}
