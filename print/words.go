package print

import "oberlin/api"

// rank: how closely the parts of an expression hold together; what stands in brackets may be of any rank.
type rank int

const (
	relation rank = iota
	sum
	product
	factor
)

// operators: their words, with the ranks of what they make.
func operators() map[string]rank {
	return map[string]rank{
		"=": relation, "#": relation, "<": relation, "<=": relation, ">": relation, ">=": relation,
		"+": sum, "-": sum, "OR": sum,
		"*": product, "DIV": product, "MOD": product, "&": product,
	}
}

// word: a kept word that tells a kind of node.
type word struct{ text string }

// words of the kinds that are told by one word, or by one and what stands in brackets behind it.
func words() map[int]word {
	return map[int]word{
		api.True: {"TRUE"}, api.False: {"FALSE"}, api.Nil: {"NIL"},
		api.New: {"NEW"}, api.Out: {"OUT"}, api.Get: {"GET"}, api.Assert: {"ASSERT"},
	}
}
