package graph_test

import (
	"strings"
	"testing"

	"quillon/api"
	"quillon/graph"
	"quillon/resolve"
	"quillon/sample"
)

// whole has no cycle; w is never reached.
const whole = `
header h { bit<8> f; bit<16> g; }
header i { bit<4> f; bit<4> g; }
metadata { bit<4> m; bit<9> n; }
parser {
	state s { extract(h); transition select(h.f, port) { 1, _: t; _, 2: u; 4, 4: accept; default: v; } }
	state t { extract(i); transition v; }
	state u { extract(h); extract(h); transition select(meta.m) { 1: reject; _: v; } }
	state v { extract(i); transition accept; }
	state w { transition u; }
}
action a(bit<9> x) { if (x == 1) { drop; } else { forward(x); if (x == 2) { drop; } } }
action b() { }
table t { key { h.f: exact; } actions { a; b; } default a(1); }
control { apply t; if (isValid(i)) { drop; } }
deparser { emit(h); emit(i); }
`

// wantMarked wants ErrCycle at the state where the @ stands; without one, none.
func wantMarked(t *testing.T, s string) {
	t.Helper()
	p, n, is := sample.Marked(s)
	if !is {
		t.Fatalf("no program, or no item at the @, in\n%s", s)
	}
	want := api.OK
	if strings.Contains(s, "@") {
		want = api.ErrCycle
	}
	wantCheck(t, p, n, want)
	if _, e := resolve.Check(p); e != api.OK {
		t.Errorf("not all is there in\n%s", s)
	}
	wantAll(t, p)
	wantSame(t, p, func() api.Program { q, _, _ := sample.Marked(s); return q })
}

// changed is a text in which something is another one.
func changed(t *testing.T, s, old, new string) string {
	t.Helper()
	s, is := sample.Change{Old: old, New: new}.In(s)
	if !is {
		t.Fatalf("%q is not there once", old)
	}
	return s
}

func TestP9_2Check(t *testing.T) {
	wantMarked(t, whole)
	wantMost(t, read(t, whole), 24+48+8, api.OK)
	wantReached(t, read(t, whole), true, true, true, true, false)
	wantOrder(t, read(t, whole), []int{0, 1, 4, 2, 3}, api.OK)
	for _, x := range []struct{ old, new, first string }{
		{"4, 4: accept;", "4, 4: s;", "s"},
		{"default: v;", "default: s;", "s"},
		{"1, _: t;", "1, _: s;", "s"},
		{"extract(i); transition v;", "extract(i); transition s;", "s"},
		{"extract(i); transition v;", "extract(i); transition t;", "t"},
		{"1: reject;", "1: s;", "s"},
		{"1: reject;", "1: u;", "u"},
		{"1: reject;", "1: w;", "u"},
		{"_: v; }", "_: u; }", "u"},
		{"extract(i); transition accept;", "extract(i); transition s;", "s"},
		{"extract(i); transition accept;", "extract(i); transition t;", "t"},
		{"extract(i); transition accept;", "extract(i); transition u;", "u"},
		{"extract(i); transition accept;", "extract(i); transition v;", "v"},
		{"extract(i); transition accept;", "extract(i); transition w;", "u"},
		{"{ transition u;", "{ transition w;", "w"},
	} {
		s := changed(t, whole, x.old, x.new)
		wantMarked(t, changed(t, s, "state "+x.first+" ", "@state "+x.first+" "))
	}
	for _, x := range []struct{ old, new string }{
		{"4, 4: accept;", "4, 4: t;"},
		{"1: reject;", "1: t;"},
		{"1, _: t;", "1, _: w;"},
		{"{ transition u;", "{ transition s;"},
	} {
		wantMarked(t, changed(t, whole, x.old, x.new))
	}
}

// The chapter's examples, and the least ones.
func TestP9_2CheckOfStates(t *testing.T) {
	wantCheck(t, program("a: b", "b: accept", "c: a"), 6, api.OK)
	wantCheck(t, program("a: b", "b: a"), 0, api.ErrCycle)
	wantCheck(t, program("s: s"), 0, api.ErrCycle)
	wantCheck(t, program("s: accept", "t: t"), 2, api.ErrCycle)
	wantCheck(t, program("s: accept nobody reject t", "t: t"), 6, api.ErrCycle)
	wantCheck(t, taking("s: t [a b]", "t: t"), 3+6+4, api.ErrCycle)
	wantCheck(t, sample.Least(), 2, api.OK)
	wantCheck(t, sample.Full(), len(resolve.Items(sample.Full())), api.OK)
}

// Whether a program may be, and whether what it names is there, other layers tell.
func TestP9_2CheckOfWhatMayNotBe(t *testing.T) {
	wantCheck(t, api.Program{}, 0, api.OK)
	wantCheck(t, api.Program{Emit: []string{"", "nobody"}}, 2, api.OK)
	wantCheck(t, api.Program{Headers: make([]api.Header, 9), States: make([]api.State, 17)}, 9+2*17, api.OK)
	p := taking("s: nobody [nobody]", "s: s", "1: s", "if: if")
	p.Metas = make([]api.Field, 3)
	wantCheck(t, p, 9+3+3+2+2, api.ErrCycle)
	p.States[3].To = "1"
	wantCheck(t, p, 9+3+3+2+2+2, api.OK)
}

// Statements are counted, however deep they are in one another.
func TestP9_2CheckOfBlocks(t *testing.T) {
	const deep = 1 << 16
	p := program("s: accept")
	for range deep / 2 {
		p.Control = []api.Stmt{sample.If(sample.Valid("h"), p.Control, nil)}
		p.Control = []api.Stmt{sample.If(sample.Valid("h"), []api.Stmt{sample.Drop()}, p.Control)}
	}
	wantCheck(t, p, 2+deep+deep/2, api.OK)
	p.States[0].To = "s"
	wantCheck(t, p, 0, api.ErrCycle)
}

func TestP9_1_P9_2Stay(t *testing.T) {
	for _, rows := range [][]string{{"s: v t u [a b]", "t: u v [c]", "u: v [a]", "v: accept"}, {"s: v t u [a b]", "t: u v [c]", "u: v [a]", "v: t"}} {
		p := taking(rows...)
		for range 2 {
			graph.Next(p, 0)
			graph.Reached(p)
			graph.Cycle(p)
			graph.Order(p)
			graph.Most(p)
			graph.Check(p)
			wantSame(t, p, func() api.Program { return taking(rows...) })
		}
	}
}
