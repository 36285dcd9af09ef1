package parse

import (
	"quillon/api"
	"quillon/ast"
)

// maxOpen is in how many brackets and unary signs another one may be: brackets leave nothing in the tree, so that its depth does not hold them.
const maxOpen = 48

// Levels are of signs between two, those that bind least first.
const (
	levelAny = iota
	levelBoth
	levelCompare
	levelOr
	levelXor
	levelAnd
	levelShift
	levelSum
	levelCat
	levelCount
)

type signs struct {
	levels [levelCount]map[string]uint8
	unary  map[string]uint8
}

func allSigns() signs {
	return signs{
		levels: [levelCount]map[string]uint8{
			levelAny:  {"||": api.ExAny},
			levelBoth: {"&&": api.ExBoth},
			levelCompare: {
				"==": api.ExEq, "!=": api.ExNe, "<": api.ExLt, "<=": api.ExLe, ">": api.ExGt, ">=": api.ExGe,
			},
			levelOr:    {"|": api.ExOr},
			levelXor:   {"^": api.ExXor},
			levelAnd:   {"&": api.ExAnd},
			levelShift: {"<<": api.ExShl, ">>": api.ExShr},
			levelSum:   {"+": api.ExAdd, "-": api.ExSub},
			levelCat:   {"++": api.ExCat},
		},
		unary: map[string]uint8{"~": api.ExNot, "-": api.ExNeg, "!": api.ExBang},
	}
}

func (p *parser) expr() api.Expr { return p.level(levelAny) }

func (p *parser) level(at int) api.Expr {
	if at == levelCount {
		return p.unary()
	}
	e := p.level(at + 1)
	for {
		op, is := p.signs.levels[at][p.Next().S]
		if !is {
			return e
		}
		sign := p.Take()
		e = p.signed(sign, api.Expr{Op: op, Args: []api.Expr{e, p.second(at)}})
		if at == levelCompare {
			return e
		}
	}
}

// second is what stands behind a sign of a level.
func (p *parser) second(at int) api.Expr {
	if at == levelShift {
		return api.Expr{Op: api.ExLit, Lit: api.Lit{N: api.Num{Lo: uint64(p.bare(0, api.MaxShift, api.ErrOver))}}}
	}
	return p.level(at + 1)
}

func (p *parser) unary() api.Expr {
	op, is := p.signs.unary[p.Next().S]
	if !is {
		return p.slice()
	}
	sign, e := p.opened(p.unary)
	return p.signed(sign, api.Expr{Op: op, Args: []api.Expr{e}})
}

// opened is a bracket or a unary sign, and what is read in it.
func (p *parser) opened(read func() api.Expr) (api.Token, api.Expr) {
	p.Need(p.open <= maxOpen, api.ErrDeep)
	t := p.Take()
	p.open++
	e := read()
	p.open--
	return t, e
}

// signed is an expression that was made by a sign, which stands for it where it is too deep.
func (p *parser) signed(sign api.Token, e api.Expr) api.Expr {
	p.NeedAt(sign, ast.Depth(e) <= api.MaxDepth, api.ErrDeep)
	return e
}

func (p *parser) slice() api.Expr {
	e := p.atom()
	for p.Is("[") {
		sign := p.Take()
		hi := p.bit()
		p.Want(":")
		second := p.Next()
		lo := p.bit()
		p.NeedAt(second, lo <= hi, api.ErrArg)
		p.Want("]")
		e = p.signed(sign, api.Expr{Op: api.ExSlice, Hi: hi, Lo: lo, Args: []api.Expr{e}})
	}
	return e
}

func (p *parser) bit() int { return p.bare(0, api.MaxWidth-1, api.ErrOver) }

func (p *parser) atom() api.Expr {
	switch {
	case p.Next().Kind == api.TokNumber:
		return api.Expr{Op: api.ExLit, Lit: p.number()}
	case p.Skip("port"):
		return api.Expr{Op: api.ExPort}
	case p.Skip("meta"):
		p.Want(".")
		return api.Expr{Op: api.ExMeta, Name: p.Name()}
	case p.Skip("isValid"):
		p.Want("(")
		e := api.Expr{Op: api.ExValid, Head: p.Name()}
		p.Want(")")
		return e
	case p.Is("("):
		_, e := p.opened(p.expr)
		p.Want(")")
		return e
	}
	return p.named()
}

func (p *parser) named() api.Expr {
	name := p.Name()
	if p.Skip(".") {
		return api.Expr{Op: api.ExField, Head: name, Name: p.Name()}
	}
	return api.Expr{Op: api.ExParam, Name: name}
}
