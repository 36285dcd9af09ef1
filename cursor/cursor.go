// Package cursor goes through a text's tokens, for the layers that read one. Its calls give up by a panic with the api.Fault that they found, which the layer's face recovers.
package cursor

import (
	"quillon/api"
	"quillon/text"
	"quillon/token"
)

// A Cursor is a text, and its tokens from the next one on, never past the one behind all.
type Cursor struct {
	text string
	rest []api.Token
}

func Of(s string) *Cursor {
	tokens, fault := token.Lex(s)
	if fault.E != api.OK {
		panic(fault)
	}
	return &Cursor{text: s, rest: tokens}
}

func (c *Cursor) Next() api.Token { return c.rest[0] }

func (c *Cursor) AtEnd() bool { return c.Next().Kind == api.TokEnd }

// Take is only for a token that was looked at: the one behind all stays.
func (c *Cursor) Take() api.Token {
	t := c.Next()
	c.rest = c.rest[1:]
	return t
}

func (c *Cursor) Is(s string) bool { return c.Next().S == s }

func (c *Cursor) Skip(s string) bool {
	if !c.Is(s) {
		return false
	}
	c.Take()
	return true
}

func (c *Cursor) Want(row ...string) {
	for _, s := range row {
		c.Need(c.Skip(s), api.ErrForm)
	}
}

// Need gives up at the next token, if something is not so.
func (c *Cursor) Need(is bool, e api.Errno) { c.NeedAt(c.Next(), is, e) }

func (c *Cursor) NeedAt(t api.Token, is bool, e api.Errno) {
	if !is {
		panic(text.Fault(c.text, t.At, e))
	}
}

func (c *Cursor) Name() string {
	c.Need(token.IsName(c.Next().S), api.ErrForm)
	return c.Take().S
}

func (c *Cursor) Number() api.Token {
	c.Need(c.Next().Kind == api.TokNumber, api.ErrForm)
	return c.Take()
}

// Bare is what a number without a width tells, least (not below 0) to most; one that is not among these is the error.
func (c *Cursor) Bare(t api.Token, least, most int, e api.Errno) int {
	c.NeedAt(t, t.W == 0, api.ErrWidth)
	n := t.N.Lo
	c.NeedAt(t, t.N.Hi == 0 && uint64(least) <= n && n <= uint64(most), e)
	return int(n)
}

// Row reads things with commas between, one at least.
func (c *Cursor) Row(item func()) {
	item()
	for c.Skip(",") {
		item()
	}
}
