package parse

import (
	"quillon/api"
	"quillon/cursor"
)

// A parser goes through a text's tokens, and keeps what was found so far.
type parser struct {
	*cursor.Cursor
	signs  signs
	places []int // of items
	blocks int   // that the next token is in
	open   int   // brackets of atoms and unary signs that the next token is in
}

func (p *parser) begin(s string) { p.Cursor, p.signs = cursor.Of(s), allSigns() }

// item keeps the place of an item that begins at the next token.
func (p *parser) item() { p.places = append(p.places, p.Next().At) }

func (p *parser) itemOf(keyword string) {
	p.item()
	p.Want(keyword)
}

func (p *parser) number() api.Lit {
	t := p.Number()
	return api.Lit{W: t.W, N: t.N}
}

func (p *parser) bare(least, most int, e api.Errno) int { return p.Bare(p.Number(), least, most, e) }

// list reads items in braces. One too many is told ahead of what is wrong with it: whatever stands there.
func list[T any](p *parser, least, most int, item func() T) []T {
	var l []T
	p.Want("{")
	for !p.Is("}") && !p.AtEnd() {
		p.Need(len(l) < most, api.ErrOver)
		l = append(l, item())
	}
	p.Need(len(l) >= least || p.AtEnd(), api.ErrShort)
	p.Want("}")
	return l
}

// row reads items with commas between.
func row[T any](p *parser, most int, item func() T) []T {
	var l []T
	p.Row(func() {
		p.Need(len(l) < most, api.ErrOver)
		l = append(l, item())
	})
	return l
}

// bracketed reads a row in brackets that may be of no item.
func bracketed[T any](p *parser, most int, item func() T) []T {
	var l []T
	p.Want("(")
	if !p.Is(")") {
		l = row(p, most, item)
	}
	p.Want(")")
	return l
}

// each reads items as long as a keyword begins one.
func each[T any](p *parser, keyword string, most int, item func() T) []T {
	var l []T
	for p.Is(keyword) {
		p.Need(len(l) < most, api.ErrOver)
		l = append(l, item())
	}
	return l
}
