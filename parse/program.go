package parse

import "quillon/api"

func (p *parser) program() api.Program {
	t := api.Program{Headers: each(p, "header", api.MaxHeaders, p.header)}
	p.want("metadata")
	t.Metas = list(p, 0, api.MaxMetas, p.field)
	p.want("parser")
	t.States = list(p, 1, api.MaxStates, p.state)
	t.Actions = each(p, "action", api.MaxActions, p.action)
	t.Tables = each(p, "table", api.MaxTables, p.table)
	p.want("control")
	t.Control = p.block()
	p.want("deparser")
	t.Emit = list(p, 0, api.MaxHeaders, p.emit)
	return t
}

func (p *parser) header() api.Header {
	p.itemOf("header")
	h := api.Header{Name: p.name()}
	h.Fields = list(p, 1, api.MaxFields, p.field)
	return h
}

func (p *parser) field() api.Field {
	f := p.param()
	p.want(";")
	return f
}

func (p *parser) param() api.Field {
	p.itemOf("bit")
	p.want("<")
	f := api.Field{W: int(p.bare(1, api.MaxWidth, api.ErrWidth))}
	p.want(">")
	f.Name = p.name()
	return f
}

func (p *parser) state() api.State {
	p.itemOf("state")
	s := api.State{Name: p.name()}
	p.want("{")
	s.Takes = each(p, "extract", api.MaxTakes, p.extract)
	p.itemOf("transition")
	if p.skip("select") {
		s.Keys, s.Cases = p.choice()
	} else {
		s.To = p.target()
		p.want(";")
	}
	p.want("}")
	return s
}

func (p *parser) extract() string { return p.ofHeader("extract") }

func (p *parser) emit() string { return p.ofHeader("emit") }

func (p *parser) ofHeader(keyword string) string {
	p.itemOf(keyword)
	p.want("(")
	name := p.name()
	p.want(")", ";")
	return name
}

func (p *parser) choice() ([]api.Expr, []api.Case) {
	p.want("(")
	keys := row(p, api.MaxKeys, p.expr)
	p.want(")")
	cases := list(p, 1, api.MaxCases, func() api.Case { return p.branch(len(keys)) })
	return keys, cases
}

func (p *parser) branch(keys int) api.Case {
	p.item()
	c := api.Case{Default: p.skip("default")}
	if !c.Default {
		c.Sets = row(p, keys, p.set)
		p.need(len(c.Sets) == keys || !p.is(":"), api.ErrShort)
	}
	p.want(":")
	c.To = p.target()
	p.want(";")
	return c
}

func (p *parser) set() api.Set {
	if p.skip("_") {
		return api.Set{Kind: api.SetAny}
	}
	s := api.Set{Kind: api.SetOne, V: p.number()}
	if p.skip("&&&") {
		s.Kind, s.M = api.SetMask, p.number()
	}
	return s
}

func (p *parser) target() string {
	if p.is("accept") || p.is("reject") {
		return p.take().S
	}
	return p.name()
}

func (p *parser) action() api.Action {
	p.itemOf("action")
	a := api.Action{Name: p.name()}
	a.Params = bracketed(p, api.MaxParams, p.param)
	a.Body = p.block()
	return a
}

func (p *parser) table() api.Table {
	p.itemOf("table")
	t := api.Table{Name: p.name()}
	p.want("{", "key")
	t.Keys = list(p, 1, api.MaxKeys, p.key)
	p.want("actions")
	t.Actions = list(p, 1, api.MaxActions, p.listed)
	p.itemOf("default")
	t.Default.Name = p.name()
	t.Default.Args = bracketed(p, api.MaxParams, p.number)
	p.want(";", "}")
	return t
}

func (p *parser) key() api.Key {
	p.item()
	k := api.Key{E: p.expr()}
	p.want(":")
	k.Kind = p.kind()
	p.want(";")
	return k
}

func (p *parser) kind() uint8 {
	switch {
	case p.skip("exact"):
		return api.KeyExact
	case p.skip("lpm"):
		return api.KeyPrefix
	}
	p.want("ternary")
	return api.KeyTernary
}

func (p *parser) listed() string {
	p.item()
	name := p.name()
	p.want(";")
	return name
}
