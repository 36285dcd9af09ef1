package parse

import (
	"quillon/api"
	"quillon/text"
	"quillon/token"
)

// A parser is a text, its tokens from the next one on (never past the one behind all), and what was found so far.
type parser struct {
	text   string
	rest   []api.Token
	signs  signs
	places []int // of items
	blocks int   // that the next token is in
	open   int   // brackets of atoms and unary signs that the next token is in
}

func (p *parser) begin() {
	tokens, fault := token.Lex(p.text)
	if fault.E != api.OK {
		panic(fault)
	}
	p.rest, p.signs = tokens, allSigns()
}

func (p *parser) next() api.Token { return p.rest[0] }

func (p *parser) atEnd() bool { return p.next().Kind == api.TokEnd }

// take is only for a token that was looked at: the one behind all stays.
func (p *parser) take() api.Token {
	t := p.next()
	p.rest = p.rest[1:]
	return t
}

func (p *parser) is(s string) bool { return p.next().S == s }

func (p *parser) skip(s string) bool {
	if !p.is(s) {
		return false
	}
	p.take()
	return true
}

func (p *parser) want(row ...string) {
	for _, s := range row {
		p.need(p.skip(s), api.ErrForm)
	}
}

// need gives up at the next token, if something is not so.
func (p *parser) need(is bool, e api.Errno) { p.needAt(p.next(), is, e) }

func (p *parser) needAt(t api.Token, is bool, e api.Errno) {
	if !is {
		panic(text.Fault(p.text, t.At, e))
	}
}

// item keeps the place of an item that begins at the next token.
func (p *parser) item() { p.places = append(p.places, p.next().At) }

func (p *parser) itemOf(keyword string) {
	p.item()
	p.want(keyword)
}

func (p *parser) name() string {
	p.need(token.IsName(p.next().S), api.ErrForm)
	return p.take().S
}

func (p *parser) number() api.Lit {
	p.need(p.next().Kind == api.TokNumber, api.ErrForm)
	t := p.take()
	return api.Lit{W: t.W, N: t.N}
}

// bare is a number without a width, least to most; one that is not among these is the error.
func (p *parser) bare(least, most uint64, e api.Errno) uint64 {
	t := p.next()
	n := p.number()
	p.needAt(t, n.W == 0, api.ErrWidth)
	p.needAt(t, n.N.Hi == 0 && least <= n.N.Lo && n.N.Lo <= most, e)
	return n.N.Lo
}

// list reads items in braces. One too many is told ahead of what is wrong with it: whatever stands there.
func list[T any](p *parser, least, most int, item func() T) []T {
	var l []T
	p.want("{")
	for !p.is("}") && !p.atEnd() {
		p.need(len(l) < most, api.ErrOver)
		l = append(l, item())
	}
	p.need(len(l) >= least || p.atEnd(), api.ErrShort)
	p.want("}")
	return l
}

// row reads items with commas between.
func row[T any](p *parser, most int, item func() T) []T {
	l := []T{item()}
	for p.skip(",") {
		p.need(len(l) < most, api.ErrOver)
		l = append(l, item())
	}
	return l
}

// bracketed reads a row in brackets that may be of no item.
func bracketed[T any](p *parser, most int, item func() T) []T {
	var l []T
	p.want("(")
	if !p.is(")") {
		l = row(p, most, item)
	}
	p.want(")")
	return l
}

// each reads items as long as a keyword begins one.
func each[T any](p *parser, keyword string, most int, item func() T) []T {
	var l []T
	for p.is(keyword) {
		p.need(len(l) < most, api.ErrOver)
		l = append(l, item())
	}
	return l
}
