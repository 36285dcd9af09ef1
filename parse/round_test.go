package parse_test

import (
	"math/rand"
	"slices"
	"strings"
	"testing"

	"quillon/api"
	"quillon/ast"
	"quillon/parse"
	"quillon/print"
	"quillon/sample"
	"quillon/text"
)

// lineItems are the places of a canonical text's items: each line begins one, but those of braces and of sections; in an action's line each parameter is one more.
func lineItems(s string) []int {
	var l []int
	at := 0
	for line := range strings.Lines(s) {
		body := strings.TrimLeft(line, " ")
		begin := at + len(line) - len(body)
		at += len(line)
		switch strings.TrimSpace(body) {
		case "}", "} else {", "metadata {", "parser {", "key {", "actions {", "control {", "deparser {":
			continue
		}
		l = append(l, begin)
		if strings.HasPrefix(body, "action ") {
			for i := range body {
				if strings.HasPrefix(body[i:], "bit<") {
					l = append(l, begin+i)
				}
			}
		}
	}
	return l
}

func wantRound(t *testing.T, p api.Program, what ...any) {
	t.Helper()
	s := print.Program(p)
	if s == "" {
		t.Fatalf("%v: no text", what)
	}
	if len(s) > api.MaxText {
		wantFault(t, "@"+s, api.ErrLong)
		return
	}
	got, places, f := parse.Program(s)
	if f != (api.Fault{}) || !ast.Same(got, p) {
		t.Errorf("%v: Program of\n%.3000s\nis %+v, %v", what, s, got, f)
	}
	if want := lineItems(s); !slices.Equal(places, want) || len(want) != ast.Items(p) {
		t.Errorf("%v: places of\n%.3000s\nare %v, want %v", what, s, places, want)
	}
}

func TestP6_3Programs(t *testing.T) {
	wantRound(t, sample.Least(), "the least program")
	wantRound(t, sample.Full(), "the full program")
	for seed := range 400 {
		m := maker{rand.New(rand.NewSource(int64(seed)))}
		wantRound(t, m.program(), "seed", seed)
	}
}

func TestP6_3Expressions(t *testing.T) {
	m := maker{rand.New(rand.NewSource(63))}
	for range 20000 {
		e := m.anyExpr()
		if s := print.Expr(e); len(s) <= api.MaxText {
			wantExpr(t, s, e)
		}
	}
}

// The deepest expressions of each sign are read wherever a program has some.
func TestP6_3Deepest(t *testing.T) {
	for op := api.ExNot; op <= api.ExAny; op++ {
		e := port()
		for range api.MaxDepth - 1 {
			switch {
			case op < api.ExSlice:
				e = of(op, e)
			case op == api.ExSlice:
				e = slice(e, 127, 0)
			case op == api.ExShl, op == api.ExShr:
				e = of(op, e, lit(0, 127))
			default:
				e = of(op, port(), e)
			}
		}
		wantExpr(t, print.Expr(e), e)
		p := sample.Full()
		p.States[0].Keys[0], p.Tables[0].Keys[0].E, p.Control[0].E, p.Control[1].Else[0].E = e, e, e, e
		wantRound(t, p, "the kind", op)
	}
}

// A block in a block, the innermost one in the eighth, and empty ones in that.
func TestP6_3Blocks(t *testing.T) {
	l := []api.Stmt{sample.If(port(), nil, nil), sample.Drop()}
	for range api.MaxBlocks - 1 {
		l = []api.Stmt{sample.If(port(), l, l[:1]), sample.Drop()}
	}
	p := sample.Least()
	p.Control = l
	wantRound(t, p, "the control")
	p = sample.Least()
	p.Actions = []api.Action{{Name: "a", Body: l}}
	wantRound(t, p, "a body")
}

// longest is a program whose text has just as many bytes as a text may have: statements fill most of it, fields' names the rest.
func longest(t *testing.T) api.Program {
	t.Helper()
	wide := port()
	for range 7 {
		wide = of(api.ExAdd, wide, wide)
	}
	p := sample.Least()
	for range api.MaxHeaders {
		h := api.Header{Name: "h"}
		for range api.MaxFields {
			h.Fields = append(h.Fields, api.Field{Name: "f", W: 1})
		}
		p.Headers = append(p.Headers, h)
	}
	lack := func() int { return api.MaxText - len(print.Program(p)) }
	for lack() > api.MaxHeaders*api.MaxFields*(api.MaxName-1) {
		last := len(p.Actions) - 1
		if last < 0 || len(p.Actions[last].Body) == api.MaxStmts {
			p.Actions = append(p.Actions, api.Action{Name: "a"})
			last++
		}
		p.Actions[last].Body = append(p.Actions[last].Body, api.Stmt{Kind: api.StForward, E: wide})
	}
	for i := range api.MaxHeaders * api.MaxFields {
		more := min(max(lack(), 0), api.MaxName-1)
		p.Headers[i/api.MaxFields].Fields[i%api.MaxFields].Name += strings.Repeat("f", more)
	}
	if lack() != 0 {
		t.Fatalf("the longest text lacks %d bytes", lack())
	}
	return p
}

// A text of MaxText bytes is read, and one of one byte more is not.
func TestP6_3Long(t *testing.T) {
	p := longest(t)
	wantRound(t, p, "the longest text")
	p.States[0].Name += "s"
	wantFault(t, "@"+print.Program(p), api.ErrLong)
}

// Blanks, line ends and comments between tokens change places alone.
func TestP6_3Spread(t *testing.T) {
	for seed := range 60 {
		m := maker{rand.New(rand.NewSource(int64(seed)))}
		p := m.program()
		if seed == 0 {
			p = sample.Full()
		}
		s := print.Program(p)
		if len(s) > api.MaxText/4 {
			continue
		}
		_, old, _ := parse.Program(s)
		var b strings.Builder
		moved := map[int]int{}
		for _, x := range lexed(t, s) {
			b.WriteString([]string{" ", "\n", "\t ", "// } ; @\n", " //\n\n"}[m.Intn(5)])
			moved[x.At] = b.Len()
			b.WriteString(x.S)
		}
		got, places, f := parse.Program(b.String())
		if f != (api.Fault{}) || !ast.Same(got, p) || len(places) != len(old) {
			t.Errorf("seed %d: %v, %d places in place of %d", seed, f, len(places), len(old))
			continue
		}
		for i, at := range places {
			if at != moved[old[i]] {
				t.Errorf("seed %d: the item %d at %v", seed, i, text.Where(b.String(), at))
			}
		}
	}
}
