package lower_test

import (
	"slices"
	"strconv"
	"strings"
	"testing"

	"quillon/api"
	"quillon/lower"
	"quillon/num"
	"quillon/parse"
	"quillon/print"
	"quillon/sample"
)

var nodeWords = []string{"none", "const", "field", "meta", "param", "port", "valid", "not", "neg", "slice", "cat", "add", "sub", "shl", "shr", "and", "xor", "or", "eq", "lt", "le"}

var instWords = []string{"none", "set", "meta", "apply", "drop", "forward", "valid", "if", "jump"}

func word(words []string, kind uint8) string {
	if int(kind) < len(words) {
		return words[kind]
	}
	return "kind" + strconv.Itoa(int(kind))
}

// numbered are two numbers, if they are not nought: two things with other numbers have other texts.
func numbered(a, b int) string {
	if a == 0 && b == 0 {
		return ""
	}
	return "(" + strconv.Itoa(a) + "," + strconv.Itoa(b) + ")"
}

// told is a code's text: of each node what it is, its W, A and B in ( ), and V behind a = .
func told(c api.Code) string {
	var l []string
	for _, n := range c {
		s := word(nodeWords, n.Op) + strconv.Itoa(n.W) + numbered(n.A, n.B)
		if n.V != num.Of(0) {
			s += "=" + num.Text(n.V)
		}
		l = append(l, s)
	}
	return strings.Join(l, " ")
}

// toldInsts is the text of instructions: of each one what it is, A and B in ( ), E in [ ], and To behind a > .
func toldInsts(code []api.Inst) string {
	var l []string
	for _, x := range code {
		s := word(instWords, x.Kind) + numbered(x.A, x.B)
		if len(x.E) > 0 {
			s += "[" + told(x.E) + "]"
		}
		if x.To != 0 {
			s += ">" + strconv.Itoa(x.To)
		}
		l = append(l, s)
	}
	return strings.Join(l, "; ")
}

func toldStep(s api.Step) string {
	l := []string{"take" + toldInts(s.Takes)}
	for _, k := range s.Keys {
		l = append(l, "["+told(k)+"]")
	}
	for _, b := range s.Branches {
		t := "case"
		for _, x := range b.Pats {
			t += " " + num.Text(x.V) + "&" + num.Text(x.M)
		}
		l = append(l, t+" >"+strconv.Itoa(b.To))
	}
	return strings.Join(append(l, ">"+strconv.Itoa(s.To)), " ")
}

func toldTab(t api.Tab) string {
	l := []string{}
	for _, k := range t.Keys {
		l = append(l, "["+told(k)+"]")
	}
	kinds := []int{}
	for _, k := range t.Kinds {
		kinds = append(kinds, int(k))
	}
	l = append(l, "kinds"+toldInts(kinds), "acts"+toldInts(t.Acts), "run "+strconv.Itoa(t.Default.Act))
	for _, n := range t.Default.Args {
		l = append(l, num.Text(n))
	}
	return strings.Join(l, " ")
}

func toldInts(l []int) string {
	s := ""
	for _, n := range l {
		s += " " + strconv.Itoa(n)
	}
	return s
}

// toldProg is a lowered program's text.
func toldProg(p api.Prog) string {
	l := []string{}
	line := func(what, rest string) { l = append(l, strings.TrimRight(what+" "+rest, " ")) }
	for _, h := range p.Heads {
		line("header"+toldInts(h), "")
	}
	line("metas"+toldInts(p.Metas), "")
	for _, s := range p.Steps {
		line("step", toldStep(s))
	}
	for _, a := range p.Acts {
		line("act"+toldInts(a.Params)+":", toldInsts(a.Body))
	}
	for _, t := range p.Tabs {
		line("tab", toldTab(t))
	}
	line("control", toldInsts(p.Control))
	line("emit"+toldInts(p.Emit), "")
	line("headers", strings.Join(p.Names.Headers, " "))
	for _, names := range p.Names.Fields {
		line("fields", strings.Join(names, " "))
	}
	line("metas", strings.Join(p.Names.Metas, " "))
	line("actions", strings.Join(p.Names.Actions, " "))
	line("tables", strings.Join(p.Names.Tables, " "))
	return strings.Join(l, "\n")
}

func read(t *testing.T, s string) api.Program {
	t.Helper()
	p, _, f := parse.Program(s)
	if f != (api.Fault{}) {
		t.Fatalf("%v in\n%s", f, s)
	}
	return p
}

func typed(t *testing.T) api.Program { return read(t, sample.Typed) }

func expr(t *testing.T, s string) api.Expr {
	t.Helper()
	e, f := parse.Expr(s)
	if f != (api.Fault{}) {
		t.Fatalf("%v in %s", f, s)
	}
	return e
}

// lowered wants that a program is told, and that it may be.
func lowered(t *testing.T, p api.Program) api.Prog {
	t.Helper()
	l, e := lower.Program(p)
	if e != api.OK {
		t.Fatalf("%d of\n%s", e, print.Program(p))
	}
	if !lower.May(l) {
		t.Fatalf("may not be:\n%s\nof\n%s", toldProg(l), print.Program(p))
	}
	return l
}

// block is a text's statements.
func block(t *testing.T, s string) []api.Stmt {
	t.Helper()
	ahead, _, _ := strings.Cut(sample.Typed, "control {")
	return read(t, ahead+"control { "+s+" } deparser { }").Control
}

// insts is what a text of statements is lowered to, in Typed: in its control (-1), or in the action 0, a(bit<9> x, bit<8> y), or 1, b(bit<1> x).
func insts(t *testing.T, action int, s string) []api.Inst {
	t.Helper()
	p := typed(t)
	if action < 0 {
		p.Control = block(t, s)
		return lowered(t, p).Control
	}
	p.Actions[action].Body = block(t, s)
	return lowered(t, p).Acts[action].Body
}

// keyCode is the code of a text's expression, as a key of a state.
func keyCode(t *testing.T, s string) api.Code {
	t.Helper()
	p := typed(t)
	p.States[2] = api.State{Name: "u", Keys: []api.Expr{expr(t, s)}, Cases: []api.Case{{Default: true, To: "accept"}}}
	return lowered(t, p).Steps[2].Keys[0]
}

// code is what a text tells, as told writes it: (A) is (A,0).
func code(t *testing.T, s string) api.Code {
	t.Helper()
	var c api.Code
	for _, f := range strings.Fields(s) {
		f, v, _ := strings.Cut(f, "=")
		f, ab, _ := strings.Cut(strings.TrimSuffix(f, ")"), "(")
		a, b, _ := strings.Cut(ab, ",")
		op := slices.Index(nodeWords, strings.TrimRight(f, "-0123456789"))
		if op < 0 {
			t.Fatalf("no node: %s", f)
		}
		n := api.Node{Op: uint8(op), W: number(t, strings.TrimLeft(f, "abcdefghijklmnopqrstuvwxyz")), A: number(t, a), B: number(t, b)}
		if v != "" {
			n.V, _ = num.Parse(v)
		}
		c = append(c, n)
	}
	return c
}

func number(t *testing.T, s string) int {
	t.Helper()
	if s == "" {
		return 0
	}
	n, err := strconv.Atoi(s)
	if err != nil {
		t.Fatal(err)
	}
	return n
}
