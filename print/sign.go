package print

import "quillon/api"

// A sign is a text in a struct, since a map's values are no bare texts.
type sign struct{ text string }

// Signs are by their kinds the signs of expressions that have Args, and the words of keys.
type signs struct{ exprs, keys map[uint8]sign }

func allSigns() signs {
	return signs{
		exprs: map[uint8]sign{
			api.ExNot: {"~"}, api.ExNeg: {"-"}, api.ExBang: {"!"},
			api.ExCat: {"++"}, api.ExAdd: {"+"}, api.ExSub: {"-"}, api.ExShl: {"<<"}, api.ExShr: {">>"},
			api.ExAnd: {"&"}, api.ExXor: {"^"}, api.ExOr: {"|"},
			api.ExEq: {"=="}, api.ExNe: {"!="}, api.ExLt: {"<"}, api.ExLe: {"<="}, api.ExGt: {">"}, api.ExGe: {">="},
			api.ExBoth: {"&&"}, api.ExAny: {"||"},
		},
		keys: map[uint8]sign{
			api.KeyExact: {"exact"}, api.KeyPrefix: {"lpm"}, api.KeyTernary: {"ternary"},
		},
	}
}
