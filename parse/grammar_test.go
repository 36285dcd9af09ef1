package parse_test

import (
	"math/rand"
	"strconv"
	"strings"
	"testing"

	"quillon/api"
	"quillon/ast"
	"quillon/parse"
	"quillon/print"
	"quillon/sample"
	"quillon/text"
	"quillon/token"
)

// rules is the chapter's grammar.
const rules = `
program   = { header } metadata parser { action } { table } control deparser
header    = "header" NAME "{" { field } "}"
field     = "bit" "<" WIDTH ">" NAME ";"
metadata  = "metadata" "{" { field } "}"
parser    = "parser" "{" { state } "}"
state     = "state" NAME "{" { "extract" "(" NAME ")" ";" } "transition" next "}"
next      = target ";" | "select" "(" expr { "," expr } ")" "{" { case } "}"
target    = NAME | "accept" | "reject"
case      = ( "default" | set { "," set } ) ":" target ";"
set       = "_" | NUMBER [ "&&&" NUMBER ]
action    = "action" NAME "(" [ param { "," param } ] ")" block
param     = "bit" "<" WIDTH ">" NAME
table     = "table" NAME "{" "key" "{" { expr ":" kind ";" } "}" "actions" "{" { NAME ";" } "}" "default" NAME "(" [ NUMBER { "," NUMBER } ] ")" ";" "}"
kind      = "exact" | "lpm" | "ternary"
control   = "control" block
deparser  = "deparser" "{" { "emit" "(" NAME ")" ";" } "}"
block     = "{" { statement } "}"
statement = NAME "." NAME "=" expr ";" | "meta" "." NAME "=" expr ";" | "if" "(" expr ")" block [ "else" block ] | "apply" NAME ";" | "drop" ";" | "forward" "(" expr ")" ";" | "valid" NAME ";" | "invalid" NAME ";"
expr      = both { "||" both }
both      = compare { "&&" compare }
compare   = or [ ( "==" | "!=" | "<" | "<=" | ">" | ">=" ) or ]
or        = xor { "|" xor }
xor       = and { "^" and }
and       = shift { "&" shift }
shift     = sum { ( "<<" | ">>" ) AMOUNT }
sum       = cat { ( "+" | "-" ) cat }
cat       = unary { "++" unary }
unary     = ( "~" | "-" | "!" ) unary | slice
slice     = atom { "[" BIT ":" BIT "]" }
atom      = NUMBER | NAME | NAME "." NAME | "meta" "." NAME | "port" | "isValid" "(" NAME ")" | "(" expr ")"
`

// A grammar has of each name of a rule its rows of symbols. Groups, and what may lack or stand often, are rules by names of their own.
type grammar map[string][][]string

func chapterGrammar() grammar {
	g := grammar{}
	for line := range strings.Lines(rules) {
		if name, body, is := strings.Cut(line, "="); is {
			rest := strings.Fields(body)
			g[strings.TrimSpace(name)] = g.rows(&rest)
		}
	}
	return g
}

// rows reads what | parts, up to the bracket that ends it.
func (g grammar) rows(rest *[]string) [][]string {
	all := [][]string{nil}
	for len(*rest) > 0 {
		s := (*rest)[0]
		*rest = (*rest)[1:]
		switch s {
		case ")", "]", "}":
			return all
		case "|":
			all = append(all, nil)
			continue
		case "(", "[", "{":
			name := "part " + strconv.Itoa(len(g))
			g[name] = nil
			g[name] = g.rows(rest)
			if s == "{" {
				for i := range g[name] {
					g[name][i] = append(g[name][i], name)
				}
			}
			if s != "(" {
				g[name] = append(g[name], nil)
			}
			s = name
		}
		all[len(all)-1] = append(all[len(all)-1], s)
	}
	return all
}

// A point is a place in a rule's row, and from which token on that rule stands.
type point struct {
	name     string
	row, dot int
	from     int
}

// A chart has, ahead of each token, all points where the tokens ahead of that can have led.
type chart []map[point]bool

func (g grammar) symbol(p point) string {
	if row := g[p.name][p.row]; p.dot < len(row) {
		return row[p.dot]
	}
	return ""
}

func (p point) next() point {
	p.dot++
	return p
}

// close adds all that follows from the points ahead of the last token.
func (g grammar) close(c chart) {
	last := len(c) - 1
	var work []point
	for p := range c[last] {
		work = append(work, p)
	}
	add := func(p point) {
		if !c[last][p] {
			c[last][p] = true
			work = append(work, p)
		}
	}
	empty := map[string]bool{} // rules that stand here without a token
	for len(work) > 0 {
		p := work[len(work)-1]
		work = work[:len(work)-1]
		s := g.symbol(p)
		if s == "" {
			if p.from == last {
				empty[p.name] = true
			}
			for q := range c[p.from] {
				if g.symbol(q) == p.name {
					add(q.next())
				}
			}
			continue
		}
		for i := range g[s] {
			add(point{name: s, row: i, from: last})
		}
		if empty[s] {
			add(p.next())
		}
	}
}

func (g grammar) begin(name string) chart {
	c := chart{{}}
	for i := range g[name] {
		c[0][point{name: name, row: i}] = true
	}
	g.close(c)
	return c
}

// step goes over a token, and tells whether it may stand there.
func (g grammar) step(c chart, x api.Token) (chart, bool) {
	l := map[point]bool{}
	for p := range c[len(c)-1] {
		if fits(g.symbol(p), x) {
			l[p.next()] = true
		}
	}
	if len(l) == 0 {
		return c, false
	}
	c = append(c[:len(c):len(c)], l)
	g.close(c)
	return c, true
}

func fits(symbol string, x api.Token) bool {
	switch symbol {
	case "NAME":
		return token.IsName(x.S)
	case "NUMBER", "WIDTH", "AMOUNT", "BIT":
		return x.Kind == api.TokNumber
	}
	return x.S != "" && symbol == `"`+x.S+`"`
}

func (g grammar) ended(c chart, name string) bool {
	for p := range c[len(c)-1] {
		if p.name == name && p.from == 0 && g.symbol(p) == "" {
			return true
		}
	}
	return false
}

// wrong is the first token that may not stand there, as the grammar has it: as many as there are, if they end too early; -1, if all is fine.
func (g grammar) wrong(c chart, name string, tokens []api.Token) int {
	for _, x := range tokens {
		next, is := g.step(c, x)
		if !is {
			return len(c) - 1
		}
		c = next
	}
	if !g.ended(c, name) {
		return len(c) - 1
	}
	return -1
}

// wantByGrammar wants ErrForm where the grammar has the first wrong token. A fault of another kind may stand ahead of it, or at it; it tells whether one did.
func wantByGrammar(t *testing.T, s string, at []int, wrong int, f api.Fault) bool {
	t.Helper()
	if f.E != api.OK && f.E != api.ErrForm {
		end := len(s)
		if wrong >= 0 {
			end = at[wrong]
		}
		where, is := text.At(s, f.At)
		if !is || where > end {
			t.Errorf("%.2000q: %v, but the first wrong token is at %v", s, f, text.Where(s, end))
		}
		return true
	}
	want := api.Fault{}
	if wrong >= 0 {
		want = text.Fault(s, at[wrong], api.ErrForm)
	}
	if f != want {
		t.Errorf("%.2000q: %v, want %v", s, f, want)
	}
	return false
}

func TestP6_1Grammar(t *testing.T) {
	g := chapterGrammar()
	s, _ := unmarked(items)
	l := lexed(t, s)
	charts := []chart{g.begin("program")}
	for _, x := range l {
		c, is := g.step(charts[len(charts)-1], x)
		if !is {
			t.Fatalf("%q may not be at %d", x.S, x.At)
		}
		charts = append(charts, c)
	}
	all, others := 0, 0
	sample.EachSwap(l, sample.Strays(), func(x sample.Swap) {
		tokens := x.In(l)
		s, at := sample.Spelt(tokens)
		wrong := g.wrong(charts[x.At], "program", tokens[x.At:])
		p, places, f := parse.Program(s)
		all++
		if wantByGrammar(t, s, at, wrong, f) {
			others++
		}
		if f.E != api.OK {
			return
		}
		if !ast.May(p) || len(places) != ast.Items(p) {
			t.Errorf("%.2000q may not be, or has %d places", s, len(places))
		}
		if q, _, _ := parse.Program(print.Program(p)); !ast.Same(p, q) {
			t.Errorf("%.2000q is printed as\n%s", s, print.Program(p))
		}
	})
	if all < 10000 || others*20 > all {
		t.Errorf("%d of %d have another fault", others, all)
	}
}

func TestP6_2Grammar(t *testing.T) {
	g := chapterGrammar()
	m := maker{rand.New(rand.NewSource(7))}
	more := sample.Strays()
	start := g.begin("expr")
	for range 4000 {
		l := lexed(t, loose(m.expr(1+m.Intn(5)), 0))
		if len(l) > 60 {
			continue
		}
		for range m.Intn(4) {
			x := sample.Swap{At: m.Intn(len(l)), Lack: m.Intn(2)}
			if m.Intn(3) > 0 {
				x.More = append(x.More, more[m.Intn(len(more))])
			}
			if l = x.In(l); len(l) == 0 {
				break
			}
		}
		s, at := sample.Spelt(l)
		e, f := parse.Expr(s)
		wantByGrammar(t, s, at, g.wrong(start, "expr", l), f)
		if f.E == api.OK && !ast.MayExpr(e) {
			t.Errorf("%q may not be", s)
		}
	}
}

// Tokens in no order, and bytes of all kinds: each call ends with a fault at a place of the text, or with what may be.
func TestP1Soup(t *testing.T) {
	m := maker{rand.New(rand.NewSource(1))}
	for range 20000 {
		s := sample.Soup(m.Intn)
		e, f := parse.Expr(s)
		if f.E == api.OK && !ast.MayExpr(e) || f.E != api.OK && !ast.SameExpr(e, api.Expr{}) {
			t.Errorf("Expr(%q) = %v, %v", s, e, f)
		}
		p, places, f := parse.Program(s)
		if f.E == api.OK || !ast.Same(p, api.Program{}) || places != nil {
			t.Errorf("Program(%q) = %v, %v, %v", s, p, places, f)
		}
		if _, is := text.At(s, f.At); !is {
			t.Errorf("Program(%q): no place %v", s, f)
		}
	}
}
