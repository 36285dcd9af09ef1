package parse

import "quillon/api"

func (p *parser) block() []api.Stmt {
	p.blocks++
	l := list(p, 0, api.MaxStmts, p.stmt)
	p.blocks--
	return l
}

func (p *parser) stmt() api.Stmt {
	p.Need(p.blocks <= api.MaxBlocks, api.ErrDeep)
	p.item()
	if p.Skip("if") {
		return p.branching()
	}
	s := p.plain()
	p.Want(";")
	return s
}

func (p *parser) branching() api.Stmt {
	s := api.Stmt{Kind: api.StIf, E: p.bracketedExpr()}
	s.Then = p.block()
	if p.Skip("else") {
		s.Else = p.block()
	}
	return s
}

// plain is a statement without blocks, up to its ; .
func (p *parser) plain() api.Stmt {
	switch {
	case p.Skip("apply"):
		return api.Stmt{Kind: api.StApply, Name: p.Name()}
	case p.Skip("drop"):
		return api.Stmt{Kind: api.StDrop}
	case p.Skip("forward"):
		return api.Stmt{Kind: api.StForward, E: p.bracketedExpr()}
	case p.Skip("valid"):
		return api.Stmt{Kind: api.StValid, Head: p.Name()}
	case p.Skip("invalid"):
		return api.Stmt{Kind: api.StInvalid, Head: p.Name()}
	}
	return p.assignment()
}

func (p *parser) assignment() api.Stmt {
	s := api.Stmt{Kind: api.StSet}
	if !p.Skip("meta") {
		s.Head = p.Name()
	}
	p.Want(".")
	s.Name = p.Name()
	p.Want("=")
	s.E = p.expr()
	return s
}

func (p *parser) bracketedExpr() api.Expr {
	p.Want("(")
	e := p.expr()
	p.Want(")")
	return e
}
