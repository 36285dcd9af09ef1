package parse_test

import (
	"strconv"
	"strings"
	"testing"

	"quillon/api"
	"quillon/sample"
)

// wantFaults wants the error in each text, where its @ stands.
func wantFaults(t *testing.T, e api.Errno, in place, texts ...string) {
	t.Helper()
	for _, s := range texts {
		wantFault(t, in(s), e)
	}
}

func TestP6_1FormOfDeclarations(t *testing.T) {
	wantFaults(t, api.ErrForm, atTop,
		"@x", "@1", "@;", "@bit<8> f;", "@headers h { }", "@action a() { }", "@table t { }",
		"header @{ }", "header @1 { }", "header @if { }", "header @_ { }", "header h @;", "header h @bit<8> f; }", "header h { @x }", "header h { @; }",
		"metadata { } @control { }", "metadata @;")
	wantFaults(t, api.ErrForm, inHeader,
		"@f;", "bit @f;", "bit @8 f;", "bit@(8) f;", "bit<@f> f;", "bit<@> f;", "bit<@-1> f;", "bit<@(8)> f;", "bit<8@ f;", "bit<8@>> f;", "bit<8@>= f;",
		"bit<8> @;", "bit<8> @1;", "bit<8> @port;", "bit<8> @bit;", "bit<8> f@, g;", "bit<8> f@[1];", "bit<8> f @", "bit<8> f; @; bit<8> g;", "bit<8> f; @8", "bit<8> f; @bits<8> g;")
	wantFaults(t, api.ErrForm, inMetas, "@f;", "@{", "@header h { }", "bit<8> f@", "bit<8> f; @parser")
	wantFaults(t, api.ErrForm, inActions,
		"@x", "@header h { bit<8> f; }", "@actions a() { }", "@state s { }", "@metadata { }",
		"action @() { }", "action @if() { }", "action a @{ }", "action a() @;", "action a() @drop;", "action a(@x) { }",
		"table t { key { port: exact; } actions { a; } default a(); } @action a() { }")
	wantFaults(t, api.ErrForm, inParams,
		"@x", "@8 x", "@,", "@1", "bit<8>@", "bit<8> @1", "bit<8> x @bit<8> y", "bit<8> x@; bit<8> y", "bit<8> x, @", "bit<8> x, @y", "bit<8> x, @, bit<8> y", "bit<8> x, bit@")
	wantFaults(t, api.ErrForm, inDeparser, "@h;", "emit @h;", "emit(@);", "emit(@1);", "emit(@if);", "emit(h@, i);", "emit(h@.f);", "emit(h) @", "emit(h);@;", "@extract(h);")
}

func TestP6_1FormOfParser(t *testing.T) {
	wantFaults(t, api.ErrForm, inParser,
		"@x", "@transition accept;", "state @{", "state @1 {", "state @accept { transition accept; }", "state @reject { transition accept; }", "state s @;",
		"state s { @}", "state s { transition accept; @extract(h); }", "state s { transition accept; @transition accept; }",
		"state s { transition accept; } @;", "state s { transition accept; } @action")
	wantFaults(t, api.ErrForm, inState,
		"@;", "@accept;", "@extracts(h); transition accept;", "@emit(h); transition accept;", "extract @h;", "extract(@);", "extract(@1);", "extract(@meta);", "extract(h@, i);", "extract(h@.f);", "extract(h) @transition accept;", "extract(h); @;",
		"transition @;", "transition @1;", "transition @port;", "transition @default;", "transition @_;", "transition @(s);", "transition accept @", "transition accept@, reject;", "transition s @x;",
		"transition select @port { default: s; }", "transition select(port) @default: s;", "transition select(port) @;", "transition select(port@{ default: s; }", "transition select(port) { default: s; }@;")
	wantFaults(t, api.ErrForm, inSelect, "@", "@, port", "port, @", "port, @, port", "port@; port", "port @port", "1 == 2 @== 3", "@_", "@default", "port@:")
	wantFaults(t, api.ErrForm, inCases,
		"@s;", "@: s;", "@accept: s;", "@port: s;", "@(1), 2: s;", "@-1, 1: s;", "1, @: s;", "1, @s: s;", "1, @default: s;", "1, @-1: s;", "1, 2 @s;", "1, 2@; s;", "1 @2: s;", "1 @",
		"default@, 1: s;", "default @&&& 1: s;", "default @s;", "_ @&&& 1, 1: s;", "1 @& 1, 1: s;", "1 &&& @_, 1: s;", "1 &&& @, 1: s;", "1 &&& 2 @&&& 3, 1: s;", "1, 2 @+ 3: s;", "1 @; s;",
		"1, 2: @;", "1, 2: @1;", "1, 2: @default;", "1, 2: s @3, 4: t;", "1, 2: s@, t;", "_, _: @_;", "default: s@.t;")
}

func TestP6_1FormOfTables(t *testing.T) {
	wantFaults(t, api.ErrForm, inTable,
		"@", "@x", "@actions { a; } default a();", "@keys { port: exact; }", "key @port: exact;", "key { port: exact; } @default a();", "key { port: exact; } @action { a; }",
		"key { port: exact; } actions @a;", "key { port: exact; }@; actions { a; }", "key { port: exact; } actions { a; } @", "key { port: exact; } actions { a; } @actions { a; }")
	wantFaults(t, api.ErrForm, inKeys,
		"@exact;", "@: exact;", "@_: exact;", "port @exact;", "port: @x;", "port: @;", "port: @prefix;", "port: exact @", "port: exact@, port: lpm;", "port: exact @lpm;", "port@, port: exact;", "port + @: exact;", "1 < 2 @< 3: exact;")
	wantFaults(t, api.ErrForm, inListed, "@1;", "@;", "@drop;", "@accept;", "a @b;", "a@, b;", "a@();", "a@.b;", "a @")
	wantFaults(t, api.ErrForm, inDefault, "@;", "@1();", "@drop();", "a@;", "a()@", "a() @x", "a(); @;", "a(); @default a();")
	wantFaults(t, api.ErrForm, inArgs, "@x", "@;", "@-1", "@(1)", "@_", "@,1", "1 @2", "1, @", "1@;", "1 @+ 1", "1, @x")
}

func TestP6_1FormOfStatements(t *testing.T) {
	for _, in := range []place{inControl, inBody, inThen, inElse} {
		wantFaults(t, api.ErrForm, in,
			"@;", "@1;", "@{ }", "x@;", "x @= 1;", "x.@= 1;", "x.@1 = 1;", "x.@port = 1;", "x.y @;", "x.y @== 1;", "x.y = @;", "x.y = 1 @", "x.y = 1@, 2;", "x.y = 1 @= 2;", "x.y = 1 < 2 @>= 3;", "x.y@.z = 1;", "x@();",
			"meta @= 1;", "meta.@= 1;", "meta.@port = 1;", "@port = 1;", "@isValid(h);", "@accept;",
			"@else { }", "if @port { }", "if (@) { }", "if (port @{ }", "if (port) @drop;", "if (port) @;", "if (port) { } else @drop;", "if (port) { } else @if (port) { }", "if (port) { } else { } @else { }", "if (port) { @; }", "if (port) { } @;",
			"apply @;", "apply @1;", "apply @if;", "apply t@();", "apply t@.u;", "apply t @", "drop @", "drop@();", "drop @x;", "drops@;",
			"forward @1;", "forward(@);", "forward(1@, 2);", "forward(1) @", "forward(1@;", "valid @;", "valid h@.f;", "valid @(h);", "valid h @", "invalid @;", "invalid @1;", "invalid h @")
	}
}

func TestP6_1Width(t *testing.T) {
	for _, in := range []place{inHeader, inMetas} {
		for w := 1; w <= api.MaxWidth; w++ {
			wantFine(t, in("bit<"+strconv.Itoa(w)+"> f;"))
			wantFaults(t, api.ErrWidth, in, "bit<@"+strconv.Itoa(w)+"w1> f;")
		}
		wantFine(t, in("bit<0x80> f;"))
		wantFaults(t, api.ErrWidth, in, "bit<@0> f;", "bit<@129> f;", "bit<@0x81> f;", "bit<@18446744073709551616> f;", "bit<@18446744073709551617> f;", "bit<@8w0>> f;", "bit<@128w129> f;", "bit<8> f; bit<@0> f;", "bit<@129 ;")
	}
	wantFine(t, inParams("bit<1> x, bit<128> y"))
	wantFaults(t, api.ErrWidth, inParams, "bit<@0> x", "bit<@129> x", "bit<@8w8> x", "bit<1> x, bit<@200> y")
}

// In programs expressions have the faults of expressions, wherever they stand.
func TestP6_1FaultsOfExpressions(t *testing.T) {
	for _, x := range []struct {
		s string
		e api.Errno
	}{
		{"x << @128", api.ErrOver}, {"x >> @8w1", api.ErrWidth}, {"x[@128:0]", api.ErrOver}, {"x[@1w1:0]", api.ErrWidth}, {"x[3:@4]", api.ErrArg}, {"x[3:@128]", api.ErrOver}, {"x[3:@8w4]", api.ErrWidth},
		{"x" + times(15, " + x") + " @+ x", api.ErrDeep}, {"@" + times(16, "~") + "x", api.ErrDeep}, {"x" + times(15, "[0:0]") + "@[0:0]", api.ErrDeep}, {times(49, "(") + "@(x", api.ErrDeep},
		{"1 + @)", api.ErrForm}, {"h.@1", api.ErrForm},
	} {
		wantFaults(t, x.e, inSelect, x.s, "port, "+x.s)
		wantFaults(t, x.e, inKeys, x.s+": exact;", "port: exact; "+x.s+": exact;")
		for _, in := range []place{inControl, inBody, inThen, inElse} {
			wantFaults(t, x.e, in, "h.f = "+x.s+";", "meta.m = "+x.s+";", "if ("+x.s+") { }", "forward("+x.s+");")
		}
	}
	// The brackets of statements, and of a select, do not count among those of its expression.
	s := times(49, "(") + "x" + times(49, ")")
	wantFine(t, inSelect(s+", "+s))
	wantFine(t, inControl("if ("+s+") { forward("+s+"); }"))
}

// A bound is a list in braces, or behind commas, or of a keyword, with how many items it may have.
type bound struct {
	in          place
	item        string
	least, most int
}

func braceLists() []bound {
	return []bound{
		{inHeader, "bit<8> f; ", 1, api.MaxFields},
		{inMetas, "bit<8> f; ", 0, api.MaxMetas},
		{inParser, "state s { transition accept; } ", 1, api.MaxStates},
		{inCases, "1, _: accept; ", 1, api.MaxCases},
		{inCases, "default: s; ", 1, api.MaxCases},
		{inKeys, "h.f: exact; ", 1, api.MaxKeys},
		{inListed, "a; ", 1, api.MaxActions},
		{inControl, "drop; ", 0, api.MaxStmts},
		{inControl, "if (port) { drop; } else { drop; } ", 0, api.MaxStmts},
		{inBody, "h.f = 1; ", 0, api.MaxStmts},
		{inThen, "forward(1); ", 0, api.MaxStmts},
		{inElse, "apply t; ", 0, api.MaxStmts},
		{inDeparser, "emit(h); ", 0, api.MaxHeaders},
	}
}

func TestP6_1BraceLists(t *testing.T) {
	for _, x := range braceLists() {
		for n := 0; n <= x.most; n++ {
			if n < x.least {
				wantFaults(t, api.ErrShort, x.in, times(n, x.item)+"@")
				continue
			}
			wantFine(t, x.in(times(n, x.item)))
		}
		whole := times(x.most, x.item)
		for _, more := range []string{x.item, x.item + x.item, "x", "1", ";", "{", "(", ")", ",", "_", "&&&", "default", "header", "bit", "if", "drop", "else", "transition", "accept"} {
			wantFaults(t, api.ErrOver, x.in, whole+"@"+more)
		}
		s, _, _ := strings.Cut(x.in(whole+"@"), "@")
		wantFault(t, s+"@", api.ErrForm)
		wantFault(t, s+" // }@", api.ErrForm)
	}
}

// Where none stands but one must, the text's end is no } that ends the list.
func TestP6_1ShortLists(t *testing.T) {
	for _, x := range braceLists() {
		s, _, _ := strings.Cut(x.in("@"), "@")
		wantFault(t, s+"@", api.ErrForm)
	}
}

func TestP6_1CommaLists(t *testing.T) {
	for _, x := range []struct {
		in    place
		item  string
		least int
		most  int
	}{
		{inSelect, "h.f + 1", 1, api.MaxKeys},
		{inParams, "bit<8> x", 0, api.MaxParams},
		{inArgs, "8w1", 0, api.MaxParams},
	} {
		for n := x.least; n <= x.most; n++ {
			wantFine(t, x.in(strings.Join(list(n, x.item), ", ")))
			wantFaults(t, api.ErrForm, x.in, strings.Join(list(n, x.item), ", ")+" @;")
		}
		whole := strings.Join(list(x.most, x.item), ",")
		for _, more := range []string{x.item, "x", "1", ";", "{", "}", "(", ")", ",", "_", "if", ""} {
			wantFaults(t, api.ErrOver, x.in, whole+", @"+more)
		}
		s, _, _ := strings.Cut(x.in(whole+"@"), "@")
		wantFault(t, s+"@", api.ErrForm)
		wantFault(t, s+",@", api.ErrOver)
		wantFault(t, s+", // x@", api.ErrOver)
	}
}

func list(n int, s string) []string {
	var l []string
	for range n {
		l = append(l, s)
	}
	return l
}

// A case has as many sets as there are keys.
func TestP6_1Sets(t *testing.T) {
	for keys := 1; keys <= api.MaxKeys; keys++ {
		in := func(s string) string {
			return inState("transition select(" + strings.Join(list(keys, "port"), ", ") + ") { " + s + " }")
		}
		for _, set := range []string{"_", "1", "8w1", "1 &&& 8w2"} {
			for n := 1; n < keys; n++ {
				wantFaults(t, api.ErrShort, in, strings.Join(list(n, set), ", ")+" @: s;", strings.Join(list(n, set), ", ")+" @: 1")
				wantFaults(t, api.ErrForm, in, strings.Join(list(n, set), ", ")+" @;", strings.Join(list(n, set), ", ")+" @")
			}
			whole := strings.Join(list(keys, set), ", ")
			wantFine(t, in(whole+": s; default: s; "+whole+": accept;"))
			for _, more := range []string{"_", "1", "1: s;", ": s;", "default: s;", ",", "}", ";", "x", ""} {
				wantFaults(t, api.ErrOver, in, whole+", @"+more, whole+": s; "+whole+", @"+more)
			}
			wantFaults(t, api.ErrForm, in, whole+" @;", whole+" @", whole+" @1: s;")
			s, _, _ := strings.Cut(in(whole+"@"), "@")
			wantFault(t, s+"@", api.ErrForm)
			wantFault(t, s+",@", api.ErrOver)
		}
	}
}

func TestP6_1Keywords(t *testing.T) {
	for _, x := range []struct {
		in      place
		keyword string
		rest    string
		most    int
		others  []string
	}{
		{atTop, "header", " h { bit<8> f; } ", api.MaxHeaders, []string{"x", "headers", "bit", "parser", "1", ";", "}"}},
		{func(s string) string { return inState(s + "transition accept;") }, "extract", "(h); ", api.MaxTakes, []string{"x", "extracts", "emit", "accept", "1", ";", "}"}},
		{inActions, "action", " a() { } ", api.MaxActions, []string{"x", "actions", "header", "state", "1", ";", "}"}},
		{inActions, "table", " t { key { port: exact; } actions { a; } default a(); } ", api.MaxTables, []string{"x", "tables", "action", "header", "1", ";", "}"}},
	} {
		for n := 0; n <= x.most; n++ {
			wantFine(t, x.in(times(n, x.keyword+x.rest)))
			for _, s := range x.others {
				if n > 0 || s != "action" {
					wantFaults(t, api.ErrForm, x.in, times(n, x.keyword+x.rest)+"@"+s+" ")
				}
			}
		}
		whole := times(x.most, x.keyword+x.rest)
		wantFaults(t, api.ErrOver, x.in, whole+"@"+x.keyword+x.rest, whole+"@"+x.keyword+" ;", whole+"@"+x.keyword+" ")
		s, _, _ := strings.Cut(x.in(whole+"@"), "@")
		wantFault(t, s+"@", api.ErrForm)
		wantFault(t, s+"@"+x.keyword, api.ErrOver)
	}
}

// blocks is a statement in so many blocks, that of what stands around it being one of them.
func blocks(n int, open, shut, s string) string { return times(n-1, open) + s + times(n-1, shut) }

func TestP6_1Blocks(t *testing.T) {
	for _, in := range []place{inControl, inBody} {
		for _, x := range [][2]string{{"if (1) { ", " }"}, {"if (1) { } else { ", " }"}, {"drop; if (1) { drop; } else { drop; ", " } drop;"}, {"if (1) { drop; ", " drop; } else { drop; }"}} {
			for n := 1; n <= api.MaxBlocks; n++ {
				wantFine(t, in(blocks(n, x[0], x[1], "drop;")))
				wantFine(t, in(blocks(n, x[0], x[1], "if (1) { } else { }")))
			}
			for _, s := range []string{"drop;", "if (1) { }", "x", "1", ";", "{", ")", "else", "_", "header"} {
				wantFaults(t, api.ErrDeep, in, blocks(api.MaxBlocks, x[0], x[1], "if (1) { @"+s+" }"))
				wantFaults(t, api.ErrDeep, in, blocks(api.MaxBlocks, x[0], x[1], "if (1) { } else { @"+s+" }"))
			}
			s, _, _ := strings.Cut(in(blocks(api.MaxBlocks, x[0], x[1], "if (1) { @")), "@")
			wantFault(t, s+"@", api.ErrForm)
			wantFault(t, s+"} else { @", api.ErrForm)
		}
	}
	// One block behind the other is not in it.
	wantFine(t, inControl(times(api.MaxStmts, "if (1) { drop; } else { drop; } ")))
	wantFaults(t, api.ErrDeep, inControl, times(api.MaxBlocks, "if (1) { ")+"@"+times(1000, "if (1) { "))
}

// The first fault from left to right is told, whatever comes behind it.
func TestP6_1First(t *testing.T) {
	faults := []struct {
		s string
		e api.Errno
	}{
		{"h.f = 1 @1;", api.ErrForm}, {"h.f = x << @200;", api.ErrOver}, {"h.f = x[@1w1:0];", api.ErrWidth}, {"h.f = x[1:@2];", api.ErrArg}, {"h.f = @" + times(16, "~") + "x;", api.ErrDeep},
		{times(api.MaxStmts, "drop; ") + "@drop;", api.ErrOver},
	}
	for _, x := range faults {
		for _, y := range faults {
			wantFault(t, inControl("drop; if (1) { "+x.s+" } "+strings.ReplaceAll(y.s, "@", "")), x.e)
		}
		wantFault(t, "header h { @} "+inControl(strings.ReplaceAll(x.s, "@", "")), api.ErrShort)
	}
	p := sample.FullText
	wantFault(t, strings.Replace(p, "select(", "@$ select(", 1)+"4w99", api.ErrForm)
}
