package parse

import "quillon/api"

func (p *parser) program() api.Program {
	t := api.Program{Headers: each(p, "header", api.MaxHeaders, p.header)}
	p.Want("metadata")
	t.Metas = list(p, 0, api.MaxMetas, p.field)
	p.Want("parser")
	t.States = list(p, 1, api.MaxStates, p.state)
	t.Actions = each(p, "action", api.MaxActions, p.action)
	t.Tables = each(p, "table", api.MaxTables, p.table)
	p.Want("control")
	t.Control = p.block()
	p.Want("deparser")
	t.Emit = list(p, 0, api.MaxHeaders, p.emit)
	return t
}

func (p *parser) header() api.Header {
	p.itemOf("header")
	h := api.Header{Name: p.Name()}
	h.Fields = list(p, 1, api.MaxFields, p.field)
	return h
}

func (p *parser) field() api.Field {
	f := p.param()
	p.Want(";")
	return f
}

func (p *parser) param() api.Field {
	p.itemOf("bit")
	p.Want("<")
	f := api.Field{W: p.bare(1, api.MaxWidth, api.ErrWidth)}
	p.Want(">")
	f.Name = p.Name()
	return f
}

func (p *parser) state() api.State {
	p.itemOf("state")
	s := api.State{Name: p.Name()}
	p.Want("{")
	s.Takes = each(p, "extract", api.MaxTakes, p.extract)
	p.itemOf("transition")
	if p.Skip("select") {
		s.Keys, s.Cases = p.choice()
	} else {
		s.To = p.target()
		p.Want(";")
	}
	p.Want("}")
	return s
}

func (p *parser) extract() string { return p.ofHeader("extract") }

func (p *parser) emit() string { return p.ofHeader("emit") }

func (p *parser) ofHeader(keyword string) string {
	p.itemOf(keyword)
	p.Want("(")
	name := p.Name()
	p.Want(")", ";")
	return name
}

func (p *parser) choice() ([]api.Expr, []api.Case) {
	p.Want("(")
	keys := row(p, api.MaxKeys, p.expr)
	p.Want(")")
	cases := list(p, 1, api.MaxCases, func() api.Case { return p.branch(len(keys)) })
	return keys, cases
}

func (p *parser) branch(keys int) api.Case {
	p.item()
	c := api.Case{Default: p.Skip("default")}
	if !c.Default {
		c.Sets = row(p, keys, p.set)
		p.Need(len(c.Sets) == keys || !p.Is(":"), api.ErrShort)
	}
	p.Want(":")
	c.To = p.target()
	p.Want(";")
	return c
}

func (p *parser) set() api.Set {
	if p.Skip("_") {
		return api.Set{Kind: api.SetAny}
	}
	s := api.Set{Kind: api.SetOne, V: p.number()}
	if p.Skip("&&&") {
		s.Kind, s.M = api.SetMask, p.number()
	}
	return s
}

func (p *parser) target() string {
	if p.Is("accept") || p.Is("reject") {
		return p.Take().S
	}
	return p.Name()
}

func (p *parser) action() api.Action {
	p.itemOf("action")
	a := api.Action{Name: p.Name()}
	a.Params = bracketed(p, api.MaxParams, p.param)
	a.Body = p.block()
	return a
}

func (p *parser) table() api.Table {
	p.itemOf("table")
	t := api.Table{Name: p.Name()}
	p.Want("{", "key")
	t.Keys = list(p, 1, api.MaxKeys, p.key)
	p.Want("actions")
	t.Actions = list(p, 1, api.MaxActions, p.listed)
	p.itemOf("default")
	t.Default.Name = p.Name()
	t.Default.Args = bracketed(p, api.MaxParams, p.number)
	p.Want(";", "}")
	return t
}

func (p *parser) key() api.Key {
	p.item()
	k := api.Key{E: p.expr()}
	p.Want(":")
	k.Kind = p.kind()
	p.Want(";")
	return k
}

func (p *parser) kind() uint8 {
	switch {
	case p.Skip("exact"):
		return api.KeyExact
	case p.Skip("lpm"):
		return api.KeyPrefix
	}
	p.Want("ternary")
	return api.KeyTernary
}

func (p *parser) listed() string {
	p.item()
	name := p.Name()
	p.Want(";")
	return name
}
