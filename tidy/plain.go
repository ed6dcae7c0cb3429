package tidy

import (
	"math"

	"oberlin/api"
	"oberlin/check"
)

// plain is what is put for a node whose parts are folded: what it tells, if that is plain, else itself.
func plain(n api.Node) api.Node {
	switch n.Kind {
	case api.Not:
		if b, ok := truth(n.Subs[0]); ok {
			return truthNode(!b, n.At)
		}
	case api.Op:
		return operation(n)
	}
	return n
}

func operation(n api.Node) api.Node {
	left, right := n.Subs[0], n.Subs[1]
	if n.Name == "&" || n.Name == "OR" {
		if b, ok := truth(left); ok {
			return decided(n, b)
		}
		return n
	}
	x, isNumber := number(left)
	y, areNumbers := number(right)
	if !isNumber || !areNumbers {
		return n
	}
	return worked(n, x, y)
}

// decided is what is put for & or OR, whose left part is a truth: one of the two parts, as it stands. The left one may have been put for something else, so that its place need not be the operator's.
func decided(n api.Node, left bool) api.Node {
	if left == (n.Name == "&") {
		return n.Subs[1]
	}
	return n.Subs[0]
}

// worked is what is put for an operator of two numbers.
func worked(n api.Node, x, y int32) api.Node {
	switch n.Name {
	case "DIV", "MOD":
		if y <= 0 {
			return n
		}
	case "+", "-", "*":
	default:
		return truthNode(check.Operate(n.Name, x, y) == 1, n.At)
	}
	z := check.Operate(n.Name, x, y)
	if z == math.MinInt32 {
		return n
	}
	return numberNode(z, n.At)
}

// truth that a node tells.
func truth(n api.Node) (b, ok bool) {
	return n.Kind == api.True, n.Kind == api.True || n.Kind == api.False
}

func truthNode(b bool, at int) api.Node {
	if b {
		return api.Node{Kind: api.True, At: at}
	}
	return api.Node{Kind: api.False, At: at}
}

// number that a node tells: a Number, or Neg of one.
func number(n api.Node) (x int32, ok bool) {
	if n.Kind == api.Neg {
		x, ok = positive(n.Subs[0])
		return -x, ok
	}
	return positive(n)
}

func positive(n api.Node) (x int32, ok bool) { return int32(n.Num), n.Kind == api.Number }

func numberNode(x int32, at int) api.Node {
	if x < 0 {
		return api.Node{Kind: api.Neg, At: at, Subs: []api.Node{numberNode(-x, at)}}
	}
	return api.Node{Kind: api.Number, Num: int(x), At: at}
}
