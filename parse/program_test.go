package parse_test

import (
	"reflect"
	"slices"
	"strings"
	"testing"

	"quillon/api"
	"quillon/ast"
	"quillon/num"
	"quillon/parse"
	"quillon/sample"
	"quillon/text"
)

// Each part that is told by its place in the text, with the @ before each item.
const items = `@header h { @bit<8>f; @bit < 0x80 > g; } @header i{@bit<1>f;}
metadata{@bit<9>m;// a remark: header bit state
@bit<128>n;}
parser {
	@state s {
		@extract(h);@extract ( i ) ;
		@transition select(port, (h.f)) { @_, 1: t; @8w1 &&& 0xF, _: accept; @default: reject; @2, 3 &&& 4: s; @default: s; }
	}
	@state t { @transition accept; } @state u { @transition reject; }
	@state v { @transition t; }
}
@action a(@bit<9> x, @bit<1>y) { @forward(x); @if (y == 1) { @drop; } }
@action b() { }
@table t { key { @h.f: exact; @(port): lpm; @~meta.m + 1: ternary; @1: exact; } actions { @b; @a; } @default a(9w1, 0x2); }
@table u { key { @port: lpm; } actions { @b; } @default b(); }
control {
	@h.f = 1; @meta.m = x;
	@if (isValid(h)) { @apply t; @if (1) { } else { @drop; @drop; } } else { @if (2) { @valid h; } @invalid h; }
	@if (3) { } else { }
	@forward((1));
}
deparser { @emit(i); @emit ( h ) ; }
`

func itemsTree() api.Program {
	n := func(v uint64) api.Lit { return api.Lit{N: num.Of(v)} }
	when, drop := sample.If, sample.Drop
	return api.Program{
		Headers: []api.Header{{Name: "h", Fields: []api.Field{{Name: "f", W: 8}, {Name: "g", W: 128}}}, {Name: "i", Fields: []api.Field{{Name: "f", W: 1}}}},
		Metas:   []api.Field{{Name: "m", W: 9}, {Name: "n", W: 128}},
		States: []api.State{
			{Name: "s", Takes: []string{"h", "i"}, Keys: []api.Expr{port(), field("h", "f")}, Cases: []api.Case{
				{Sets: []api.Set{{Kind: api.SetAny}, {Kind: api.SetOne, V: n(1)}}, To: "t"},
				{Sets: []api.Set{{Kind: api.SetMask, V: api.Lit{W: 8, N: num.Of(1)}, M: n(15)}, {Kind: api.SetAny}}, To: "accept"},
				{Default: true, To: "reject"},
				{Sets: []api.Set{{Kind: api.SetOne, V: n(2)}, {Kind: api.SetMask, V: n(3), M: n(4)}}, To: "s"},
				{Default: true, To: "s"},
			}},
			{Name: "t", To: "accept"}, {Name: "u", To: "reject"}, {Name: "v", To: "t"},
		},
		Actions: []api.Action{
			{Name: "a", Params: []api.Field{{Name: "x", W: 9}, {Name: "y", W: 1}}, Body: []api.Stmt{
				{Kind: api.StForward, E: param("x")}, when(of(api.ExEq, param("y"), lit(0, 1)), []api.Stmt{drop()}, nil),
			}},
			{Name: "b"},
		},
		Tables: []api.Table{
			{Name: "t", Keys: []api.Key{{E: field("h", "f"), Kind: api.KeyExact}, {E: port(), Kind: api.KeyPrefix}, {E: of(api.ExAdd, of(api.ExNot, meta("m")), lit(0, 1)), Kind: api.KeyTernary}, {E: lit(0, 1), Kind: api.KeyExact}},
				Actions: []string{"b", "a"}, Default: api.Call{Name: "a", Args: []api.Lit{{W: 9, N: num.Of(1)}, n(2)}}},
			{Name: "u", Keys: []api.Key{{E: port(), Kind: api.KeyPrefix}}, Actions: []string{"b"}, Default: api.Call{Name: "b"}},
		},
		Control: []api.Stmt{
			{Kind: api.StSet, Head: "h", Name: "f", E: lit(0, 1)}, {Kind: api.StSet, Name: "m", E: param("x")},
			when(valid("h"), []api.Stmt{{Kind: api.StApply, Name: "t"}, when(lit(0, 1), nil, []api.Stmt{drop(), drop()})},
				[]api.Stmt{when(lit(0, 2), []api.Stmt{{Kind: api.StValid, Head: "h"}}, nil), {Kind: api.StInvalid, Head: "h"}}),
			when(lit(0, 3), nil, nil),
			{Kind: api.StForward, E: lit(0, 1)},
		},
		Emit: []string{"i", "h"},
	}
}

// unmarked is a text without the @s in it, and where these stood.
func unmarked(s string) (string, []int) {
	parts := strings.Split(s, "@")
	var at []int
	n := 0
	for _, part := range parts[:len(parts)-1] {
		n += len(part)
		at = append(at, n)
	}
	return strings.Join(parts, ""), at
}

func TestP6_1Items(t *testing.T) {
	s, at := unmarked(items)
	p, places, f := parse.Program(s)
	if f != (api.Fault{}) || !ast.Same(p, itemsTree()) {
		t.Errorf("%+v, %v", p, f)
	}
	if !slices.Equal(places, at) {
		t.Errorf("places %v, want %v", places, at)
	}
	if len(places) != ast.Items(p) {
		t.Errorf("%d places of %d items", len(places), ast.Items(p))
	}
}

func TestP6_1Least(t *testing.T) {
	for _, s := range []string{
		sample.LeastText,
		"metadata{}parser{state s{transition accept;}}control{}deparser{}",
		"// none\n metadata { } parser { state s { transition accept ; } } control { } deparser { } // end",
		atTop(""), inMetas(""), inActions(""), inControl(""), inDeparser(""),
	} {
		p, places, f := parse.Program(s)
		if f != (api.Fault{}) || !ast.Same(p, sample.Least()) {
			t.Errorf("Program(%q) = %+v, %v", s, p, f)
		}
		if want := []int{strings.Index(s, "state"), strings.Index(s, "transition")}; !slices.Equal(places, want) {
			t.Errorf("Program(%q) has the places %v, want %v", s, places, want)
		}
	}
}

// Another answer is in memory of its own, and shares none with another one.
func TestP6_1Anew(t *testing.T) {
	s, at := unmarked(items)
	p, places, _ := parse.Program(s)
	p.Headers[0].Fields[0].Name, p.States[0].Cases[0].Sets[0].Kind, p.Control[2].Then[0].Name, p.Emit[0] = "x", 9, "x", "x"
	p.Tables[0].Keys[2].E.Args[0].Op, p.Tables[0].Default.Args[0].W = 9, 9
	places[0] = 99
	q, again, _ := parse.Program(s)
	if !ast.Same(q, itemsTree()) || !slices.Equal(again, at) {
		t.Error("an answer hangs on another one")
	}
	for i := range q.States[0].Cases {
		q.States[0].Cases[i].Sets = append(q.States[0].Cases[i].Sets, api.Set{})
	}
	q.Headers[0].Fields = append(q.Headers[0].Fields, api.Field{})
	if q.Headers[1].Fields[0].Name != "f" || !reflect.DeepEqual(q.States[1].Takes, itemsTree().States[1].Takes) {
		t.Error("lists share memory")
	}
}

// Where a text ends too early, that is told at its end, whatever lacks.
func TestP6_1Ends(t *testing.T) {
	s, _ := unmarked(items)
	l := lexed(t, s)
	for i, x := range l {
		wantFault(t, s[:x.At]+"@", api.ErrForm)
		if i > 0 {
			end := l[i-1].At + len(l[i-1].S)
			wantFault(t, s[:end]+"@", api.ErrForm)
			wantFault(t, s[:end]+" // and no more@", api.ErrForm)
		}
	}
}

func TestP6_1Behind(t *testing.T) {
	s, _ := unmarked(items)
	for _, x := range []string{"x", "}", ";", "{", "header", "deparser", "emit", "1", "8w1", "_", "("} {
		wantFault(t, s+"@"+x, api.ErrForm)
		wantFault(t, s+" // \n@"+x+" "+x, api.ErrForm)
	}
}

// What layer 3 tells goes ahead of all.
func TestP6_1Lex(t *testing.T) {
	wantFault(t, atTop("x")+"@$", api.ErrForm)
	wantFault(t, ") @4w16", api.ErrOver)
	wantFault(t, "header 1 @129w0", api.ErrWidth)
	wantFault(t, inControl("if (1) ) ")+"@12x", api.ErrForm)
	wantFault(t, "header @abcdefghijklmnopq", api.ErrLong)
	wantFault(t, "@)"+strings.Repeat("\n", api.MaxText), api.ErrLong)
	wantFine(t, sample.LeastText+strings.Repeat("\n", api.MaxText-len(sample.LeastText)))
	wantFault(t, "@"+sample.LeastText+strings.Repeat("\n", 1+api.MaxText-len(sample.LeastText)), api.ErrLong)
}

func TestP6_1Places(t *testing.T) {
	_, _, f := parse.Program("metadata {\n} parser {\n\n\tstate s { transition\n   1; } }")
	if want := (api.Fault{E: api.ErrForm, At: api.Place{Line: 5, Col: 4}}); f != want || text.Say(f) != "line 5 column 4: form" {
		t.Errorf("%v, want %v", f, want)
	}
	_, _, f = parse.Program("")
	if want := (api.Fault{E: api.ErrForm, At: api.Place{Line: 1, Col: 1}}); f != want {
		t.Errorf("%v, want %v", f, want)
	}
	_, f = parse.Expr("1 +\n")
	if want := (api.Fault{E: api.ErrForm, At: api.Place{Line: 2, Col: 1}}); f != want {
		t.Errorf("%v, want %v", f, want)
	}
}
