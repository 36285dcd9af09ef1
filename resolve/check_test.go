package resolve_test

import (
	"reflect"
	"strconv"
	"strings"
	"testing"

	"quillon/api"
	"quillon/ast"
	"quillon/print"
	"quillon/resolve"
	"quillon/sample"
)

// wantCheck wants the error at the item where the @ stands; without one, none.
func wantCheck(t *testing.T, s string, e api.Errno) {
	t.Helper()
	p, want, is := sample.Marked(s)
	if !is || strings.Contains(s, "@") != (e != api.OK) {
		t.Fatalf("no place of %d, or too many, in\n%s", e, s)
	}
	before := print.Program(p)
	if n, got := resolve.Check(p); n != want || got != e {
		t.Errorf("Check is %d, %d, want %d, %d, of\n%s", n, got, want, e, s)
	}
	if print.Program(p) != before {
		t.Errorf("Check changed\n%s", s)
	}
}

func TestP7_2CheckExamples(t *testing.T) {
	wantCheck(t, "metadata { } parser { state s { transition accept; } } control { } deparser { }", api.OK)
	wantCheck(t, "metadata { } parser { state s { transition accept; } @state s { transition accept; } } control { } deparser { }", api.ErrTwice)
	for _, x := range []struct {
		p    api.Program
		want int
	}{{sample.Least(), 2}, {sample.Full(), 47}} {
		if n, e := resolve.Check(x.p); n != x.want || e != api.OK {
			t.Errorf("Check is %d, %d, want %d", n, e, x.want)
		}
	}
	wantCheck(t, whole, api.OK)
}

// onlyThere are changes that make the item behind the @ wrong, and no other one.
func onlyThere() []change {
	return []change{
		// The widths of headers and fields.
		{"header h { bit<8> f; bit<3> g;", "@header h { bit<8> f; bit<4> g;", api.ErrWidth},
		{"header i { bit<16> f; }", "@header i { bit<7> f; }", api.ErrWidth},
		{"bit<5> x; }", "bit<5> x; } @header h { bit<8> f; }", api.ErrTwice},
		{"header i { bit<16> f; }", "header i { bit<16> f; @bit<8> f; }", api.ErrTwice},
		{"bit<5> x;", "bit<5> x; @bit<64> g;", api.ErrTwice},
		{"bit<5> x;", "bit<5> x; bit<8> y; @bit<8> y;", api.ErrTwice},
		{"bit<9> h;", "bit<9> h; @bit<4> m;", api.ErrTwice},
		{"bit<9> h;", "bit<9> h; @bit<1> h;", api.ErrTwice},
		// States, and where they go.
		{"state w { transition reject; }", "state w { transition reject; } @state s { transition reject; }", api.ErrTwice},
		{"state u {", "@state t { transition accept; } state u {", api.ErrTwice},
		{"extract(h); extract(h);", "extract(h); @extract(j); extract(h);", api.ErrNone},
		{"extract(i); ", "@extract(m); ", api.ErrNone},
		{"extract(i); ", "@extract(t); ", api.ErrNone},
		{"transition u;", "@transition v;", api.ErrNone},
		{"transition u;", "@transition h;", api.ErrNone},
		{"transition u;", "@transition a;", api.ErrNone},
		{"transition select(h.f,", "@transition select(h.y,", api.ErrNone},
		{"transition select(h.f,", "@transition select(j.f,", api.ErrNone},
		{"transition select(h.f,", "@transition select(x,", api.ErrNone},
		{"transition select(h.f, meta.m ++", "@transition select(h.f, meta.i ++", api.ErrNone},
		{"transition select(h.f, meta.m ++ (port + 1))", "@transition select(h.f, port ++ (port + y))", api.ErrNone},
		{"transition select(h.f,", "@transition select(isValid(j),", api.ErrNone},
		{"1, _: t;", "@1, _: v;", api.ErrNone},
		{"1, _: t;", "@1, _: h;", api.ErrNone},
		{"_, 2 &&& 3: accept;", "@_, 2 &&& 3: a;", api.ErrNone},
		{"default: reject;", "@default: m;", api.ErrNone},
		{"_, _: s;", "_, _: s; @_, _: ss;", api.ErrNone},
		// Actions.
		{"action c() { }", "action c() { } @action a() { }", api.ErrTwice},
		{"action c() { }", "action c() { } @action c() { }", api.ErrTwice},
		{"action c() { }", "action c() { } action d(bit<1> x, bit<2> y, @bit<1> x) { }", api.ErrTwice},
		{"action c() { }", "action c() { } action d(bit<1> x, @bit<2> x) { }", api.ErrTwice},
		{"forward(x + 1);", "@forward(z + 1);", api.ErrNone},
		{"forward(x + 1);", "@apply t;", api.ErrKind},
		{"forward(x + 1);", "@apply nobody;", api.ErrKind},
		{"h.g = y[2:0];", "@h.y = y[2:0];", api.ErrNone},
		{"h.g = y[2:0];", "@j.g = y[2:0];", api.ErrNone},
		{"h.g = y[2:0];", "@i.g = y[2:0];", api.ErrNone},
		{"h.g = y[2:0];", "@h.g = f[2:0];", api.ErrNone},
		{"h.g = y[2:0];", "@h.g = a[2:0];", api.ErrNone},
		{"if (!isValid(i)) {", "@if (!isValid(x)) {", api.ErrNone},
		{"meta.h = x; drop;", "@meta.f = x; drop;", api.ErrNone},
		{"meta.h = x; drop;", "@meta.h = meta.x; drop;", api.ErrNone},
		{"meta.h = x; drop;", "meta.h = x; @apply t;", api.ErrKind},
		{"invalid i;", "@invalid x;", api.ErrNone},
		{"if (y == 3) { }", "@if (z == 3) { }", api.ErrNone},
		{"if (y == 3) { }", "if (y == 3) { } else { @apply a; }", api.ErrKind},
		{"meta.m = x ++ 3w1;", "@meta.m = y ++ 3w1;", api.ErrNone},
		{"action c() { }", "action c() { drop; @forward(x); }", api.ErrNone},
		// Tables.
		{"table a {", "@table t { key { port: exact; } actions { c; } default c(); } table a {", api.ErrTwice},
		{"control {", "@table a { key { port: exact; } actions { c; } default c(); } control {", api.ErrTwice},
		{"h.x: exact;", "@h.m: exact;", api.ErrNone},
		{"h.x: exact;", "@y: exact;", api.ErrNone},
		{"~meta.m: ternary;", "@~meta.f: ternary;", api.ErrNone},
		{"~meta.m: ternary;", "~meta.m: ternary; @port - (2 & isValid(m)): lpm;", api.ErrNone},
		{"a; b; c; }", "a; b; c; @d; }", api.ErrNone},
		{"a; b; c; }", "a; b; @t; c; }", api.ErrNone},
		{"a; b; c; }", "a; b; @a; c; }", api.ErrTwice},
		{"a; b; c; }", "a; b; c; @c; }", api.ErrTwice},
		{"a; b; c; }", "a; b; c; @x; x; }", api.ErrNone},
		{"default a(1, 2);", "@default a(1);", api.ErrShort},
		{"default a(1, 2);", "@default a();", api.ErrShort},
		{"default a(1, 2);", "@default a(1, 2, 3);", api.ErrOver},
		{"default a(1, 2);", "@default b();", api.ErrShort},
		{"default a(1, 2);", "@default b(1, 2);", api.ErrOver},
		{"default a(1, 2);", "@default c(1);", api.ErrOver},
		{"default a(1, 2);", "@default d(1, 2);", api.ErrNone},
		{"default a(1, 2);", "@default t();", api.ErrNone},
		{"default c();", "@default a(1, 2);", api.ErrNone},
		{"default c();", "@default b();", api.ErrNone},
		{"default c();", "@default c(0);", api.ErrOver},
		// The control, and what is emitted.
		{"control {\n\tapply t;", "control {\n\t@apply b;", api.ErrNone},
		{"control {\n\tapply t;", "control {\n\t@apply h;", api.ErrNone},
		{"if (h.g == 1", "@if (i.g == 1", api.ErrNone},
		{"if (h.g == 1 || meta.h == 2)", "@if (h.g == 1 || meta.g == 2)", api.ErrNone},
		{"if (h.g == 1 || meta.h == 2)", "@if (h.g == 1 || x == 2)", api.ErrNone},
		{"apply a;", "@apply x;", api.ErrNone},
		{"valid h; } else", "@valid m; } else", api.ErrNone},
		{"i.f = i.f - 5;", "@i.g = i.f - 5;", api.ErrNone},
		{"i.f = i.f - 5;", "@j.f = i.f - 5;", api.ErrNone},
		{"i.f = i.f - 5;", "@meta.f = i.f - 5;", api.ErrNone},
		{"i.f = i.f - 5;", "@i.f = i.g - 5;", api.ErrNone},
		{"i.f = i.f - 5;", "@i.f = y - 5;", api.ErrNone},
		{"if (port < 4) {", "@if (f < 4) {", api.ErrNone},
		{"if (port < 4) { }", "if (port < 4) { drop; @forward(h); }", api.ErrNone},
		{"invalid h;", "@invalid s;", api.ErrNone},
		{"forward(meta.h);", "@forward(meta.x);", api.ErrNone},
		{"forward(meta.h);", "@forward(x);", api.ErrNone},
		{"meta.h = 6;", "@meta.i = 6;", api.ErrNone},
		{"meta.h = 6;", "@meta.h = 6 ++ h.m;", api.ErrNone},
		{"meta.h = 6;", "meta.h = 6; @valid nobody;", api.ErrNone},
		{"emit(i);", "@emit(m);", api.ErrNone},
		{"emit(h);", "@emit(i);", api.ErrTwice},
		{"emit(h);", "emit(h); @emit(h);", api.ErrTwice},
		{"emit(h);", "emit(h); @emit(t);", api.ErrNone},
	}
}

func TestP7_2CheckEachItem(t *testing.T) {
	for _, c := range onlyThere() {
		wantCheck(t, changed(t, whole, c), c.E)
	}
}

// Of two items that are wrong the first one is told.
func TestP7_2CheckTheFirstItem(t *testing.T) {
	pairs := 0
	for _, c := range onlyThere() {
		for _, d := range onlyThere() {
			both, e, is := sample.Both(whole, sample.Change(c), sample.Change(d))
			if !is {
				continue
			}
			wantCheck(t, both, e)
			pairs++
		}
	}
	if pairs < 7000 {
		t.Errorf("only %d pairs", pairs)
	}
}

// Of two things that are wrong with an item the one that the chapter names first is told.
func TestP7_2CheckTheFirstError(t *testing.T) {
	for _, c := range []change{
		{"header i { bit<16> f; }", "@header h { bit<15> f; }", api.ErrTwice},
		{"header i { bit<16> f; }", "@header i { bit<15> f; bit<15> f; }", api.ErrWidth},
		{"forward(x + 1);", "@apply nobody;", api.ErrKind},
		{"a; b; c; }", "a; b; c; @d; d; }", api.ErrNone},
		{"default c();", "@default b(1, 2);", api.ErrNone},
		{"default c();", "@default nobody(1);", api.ErrNone},
		{"emit(h);", "@emit(j); emit(j);", api.ErrNone},
	} {
		wantCheck(t, changed(t, whole, c), c.E)
	}
}

// What one kind of thing is called says nothing of another kind.
func TestP7_2CheckNamesOfKinds(t *testing.T) {
	for _, c := range []change{
		{"bit<9> h;", "bit<9> h; bit<1> f; bit<1> s; bit<1> a; bit<1> t; bit<1> x; bit<1> i;", api.OK},
		{"header i { bit<16> f; }", "header i { bit<16> f; bit<8> h; bit<8> i; } header s { bit<8> s; } header x { bit<8> f; } header a { bit<8> a; }", api.OK},
		{"state w {", "state h { transition i; } state i { transition a; } state a { transition h; } state f { transition f; } state w {", api.OK},
		{"action c() { }", "action c() { } action h(bit<8> h, bit<9> i, bit<10> c) { forward(i); h.f = h; } action s() { } action t(bit<1> t) { meta.h = t; }", api.OK},
		{"control {", "table h { key { h.f: exact; } actions { c; } default c(); } table s { key { port: lpm; } actions { c; } default c(); } table x { key { 1: lpm; } actions { c; } default c(); } control { apply h; apply s;", api.OK},
		// Headers may be taken, and set, again and again; a transition may go anywhere, and a table be applied twice.
		{"extract(h); extract(h);", "extract(i); extract(h); extract(i); extract(h);", api.OK},
		{"transition u;", "transition t;", api.OK},
		{"transition u;", "transition reject;", api.OK},
		{"apply a;", "apply a; apply t; apply a;", api.OK},
		{"emit(i); emit(h);", "", api.OK},
		{"emit(i); emit(h);", "emit(h); emit(i);", api.OK},
		{"default a(1, 2);", "default b(1);", api.OK},
		{"default a(1, 2);", "default c();", api.OK},
		// Widths are not looked at here, but for headers.
		{"default a(1, 2);", "default a(9w1, 77777);", api.OK},
		{"h.x: exact;", "isValid(h) + 1: lpm; port: lpm;", api.OK},
		{"meta.h = 6;", "meta.h = 9w6 + 10w7; forward(isValid(h)); if (port) { }", api.OK},
	} {
		wantCheck(t, changed(t, whole, c), c.E)
	}
}

// A header's width is a multiple of 8, and at most 256.
func TestP7_2CheckWidths(t *testing.T) {
	for bits := 1; bits <= 16*128; bits++ {
		s, left := "header i { bit<16> f;", bits
		for n := 16; n > 0; n-- {
			// As many fields as there may be: the last ones are 1 bit each.
			w := min(left-(n-1), 128)
			if w < 1 {
				continue
			}
			s += " bit<" + strconv.Itoa(w) + "> f" + strconv.Itoa(n) + ";"
			left -= w
		}
		e := api.ErrWidth
		if bits%8 == 0 && bits <= 256 {
			e = api.OK
		}
		s = strings.Replace(s, "bit<16> f;", "", 1) + " } "
		if e != api.OK {
			s = "@" + s
		}
		wantCheck(t, s+"metadata { } parser { state s { transition accept; } } control { } deparser { emit(i); }", e)
	}
}

func TestP7_2CheckWhatMayNotBe(t *testing.T) {
	round := make([]api.Stmt, 1)
	round[0] = when(port(), round, nil)
	deep := port()
	for range 16 {
		deep = of(api.ExNot, deep)
	}
	for i, change := range []func(p *api.Program){
		func(p *api.Program) { *p = api.Program{} },
		func(p *api.Program) { p.States = nil },
		func(p *api.Program) { p.Headers[1].Name = "if" },
		func(p *api.Program) { p.Headers[1].Fields = nil },
		func(p *api.Program) { p.Headers[1].Fields[0].W = 0 },
		func(p *api.Program) { p.Headers = append(p.Headers, make([]api.Header, 7)...) },
		func(p *api.Program) { p.Metas[1].W = 129 },
		func(p *api.Program) { p.States[0].To = "accept" },
		func(p *api.Program) { p.States[1].To = "default" },
		func(p *api.Program) { p.States[2].Name = "accept" },
		func(p *api.Program) { p.Control = append(p.Control, drop(), api.Stmt{}) },
		func(p *api.Program) { p.Control = round },
		func(p *api.Program) { p.Control[0].E = deep },
		func(p *api.Program) { p.Tables[0].Default.Name = "" },
		func(p *api.Program) { p.Tables[0].Default.Args = make([]api.Lit, 9) },
		func(p *api.Program) { p.Emit[0] = "_" },
		func(p *api.Program) { p.Emit[1] = long(17) },
	} {
		// Also where something is wrong with an item ahead.
		for _, s := range []string{whole, strings.Replace(whole, "bit<8> f;", "bit<9> f;", 1)} {
			p, _ := read(t, s)
			change(&p)
			if n, e := resolve.Check(p); n != -1 || e != api.ErrArg {
				t.Errorf("change %d: Check is %d, %d", i, n, e)
			}
		}
	}
}

// Where a list is empty it is as one that is not there.
func TestP7_2CheckEmptyLists(t *testing.T) {
	p := sample.Least()
	p.Headers, p.Metas, p.Actions, p.Tables, p.Control, p.Emit = []api.Header{}, []api.Field{}, []api.Action{}, []api.Table{}, []api.Stmt{}, []string{}
	p.States[0].Takes, p.States[0].Keys, p.States[0].Cases = []string{}, []api.Expr{}, []api.Case{}
	if n, e := resolve.Check(p); n != 2 || e != api.OK {
		t.Errorf("Check is %d, %d", n, e)
	}
	if !reflect.DeepEqual(resolve.Items(p), resolve.Items(sample.Least())) || ast.Items(p) != 2 {
		t.Error("other items")
	}
}
