package parse

import "quillon/api"

func (p *parser) block() []api.Stmt {
	p.blocks++
	l := list(p, 0, api.MaxStmts, p.stmt)
	p.blocks--
	return l
}

func (p *parser) stmt() api.Stmt {
	p.need(p.blocks <= api.MaxBlocks, api.ErrDeep)
	p.item()
	if p.skip("if") {
		return p.branching()
	}
	s := p.plain()
	p.want(";")
	return s
}

func (p *parser) branching() api.Stmt {
	s := api.Stmt{Kind: api.StIf, E: p.bracketedExpr()}
	s.Then = p.block()
	if p.skip("else") {
		s.Else = p.block()
	}
	return s
}

// plain is a statement without blocks, up to its ; .
func (p *parser) plain() api.Stmt {
	switch {
	case p.skip("apply"):
		return api.Stmt{Kind: api.StApply, Name: p.name()}
	case p.skip("drop"):
		return api.Stmt{Kind: api.StDrop}
	case p.skip("forward"):
		return api.Stmt{Kind: api.StForward, E: p.bracketedExpr()}
	case p.skip("valid"):
		return api.Stmt{Kind: api.StValid, Head: p.name()}
	case p.skip("invalid"):
		return api.Stmt{Kind: api.StInvalid, Head: p.name()}
	}
	return p.assignment()
}

func (p *parser) assignment() api.Stmt {
	s := api.Stmt{Kind: api.StSet}
	if !p.skip("meta") {
		s.Head = p.name()
	}
	p.want(".")
	s.Name = p.name()
	p.want("=")
	s.E = p.expr()
	return s
}

func (p *parser) bracketedExpr() api.Expr {
	p.want("(")
	e := p.expr()
	p.want(")")
	return e
}
