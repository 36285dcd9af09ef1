package ask_test

import (
	"slices"
	"strings"
	"testing"

	"quillon/api"
	"quillon/ask"
	"quillon/sample"
	"quillon/text"
)

func TestP14_1FormOfBounds(t *testing.T) {
	x := usual(t)
	x.wantFault(t, api.ErrForm,
		"@", "// length\n@", "@;", "@1", "@hops 1;", "@nodes 2;", "@drop a:1;", "@Length 1;", "@len 1;", "@length1 1;", "@{", "@if",
		"length@", "length @;", "length @x;", "length @length 1;", "length @_;", "length @-1;", "length @(1);", "length @: 1;", "length @= 1;", "length @hops 1;",
		"length 1@", "length 1 @hops 1;", "length 1@, 2;", "length 1 @2;", "length 1@: hops", "length 1@.5;", "length 1 @+ 1;", "length 1 @};",
		"length 1;@", "length 1;@;", "length 1; @length 1;", "length 1; @nodes 2;", "length 1; @drop a:1;", "length 1; @1;", "length 1; @hop 1;",
		"length 1; hops@", "length 1; hops @;", "length 1; hops @x;", "length 1; hops @nodes 2;", "length 1; hops 1@", "length 1; hops 1 @nodes 2;", "length 1; hops 1 @1;",
		"length 1; hops 1;@", "length 1; hops 1; @hops 1;", "length 1; hops 1; @drop a:1;", "length 1; hops 1; @;", "length 1; hops 1; @node 2;",
		"length 1; hops 1; nodes@", "length 1; hops 1; nodes @;", "length 1; hops 1; nodes @drop;", "length 1; hops 1; nodes 2@", "length 1; hops 1; nodes 2 @drop a:1;", "length 1; hops 1; nodes 2@, 3;", "length 1; hops 1; nodes 2 // ;\n@",
	)
}

func TestP14_1FormOfQueries(t *testing.T) {
	x := usual(t)
	x.wantFaults(t, api.ErrForm,
		// What begins no query.
		"@;", "@1", "@a:1;", "@length 1;", "@hops 1;", "@nodes 2;", "@to a:1;", "@where isValid(h);", "@Reach a:1 to a:2;", "@reached a:1 to a:2;", "@forward a:1;", "@valid a:1;", "@{", "@}", "@(drop a:1);", "@!drop a:1;", "@_ a:1;",
		// Ends.
		"drop@", "drop @;", "drop @1:1;", "drop @:1;", "drop @_:1;", "drop @port:1;", "drop @if:1;", "drop @drop:1;", "drop @invalid:1;", "drop @, a:1;", "drop @(a:1);", "drop @{ a:1; }",
		"drop a@", "drop a@;", "drop a @1;", "drop a@.1;", "drop a@, a:1;", "drop a @a:1;", "drop a @to a:2;", "drop a @where isValid(h);", "drop a@= 1;",
		"drop a:@", "drop a:@;", "drop a:@a;", "drop a:@_;", "drop a:@-1;", "drop a:@(1);", "drop a:@:1;", "drop a:@where isValid(h);",
		"drop a:1@", "drop a:1 @a:2;", "drop a:1 @2;", "drop a:1@:2;", "drop a:1@.2;", "drop a:1 @drop a:1;", "drop a:1 @loop a:1;", "drop a:1@}", "drop a:1 @&& a:2;", "drop a:1 @if isValid(h);", "drop a:1 @isValid(h);", "drop a:1 // ;\n@",
		"drop a:1,@", "drop a:1,@;", "drop a:1,@, a:2;", "drop a:1, @2;", "drop a:1, @:2;", "drop a:1, @drop a:2;", "drop a:1, a@;", "drop a:1, a@, to:1;", "drop a:1, a:@;", "drop a:1, a:2@", "drop a:1, a:2 @to:1;", "drop a:1, a:2 @3;",
		// Only of a packet that gets somewhere is asked to where.
		"drop a:1 @to a:2;", "loop a:1 @to a:2;", "invalid a:1 @to a:2;", "drop a:1, a:2 @to to:1;", "drop a:1 @to;",
		"reach a:1@;", "isolate a:1@;", "reach a:1@", "isolate a:1, a:2@;", "reach a:1 @where isValid(h);", "isolate a:1 @where isValid(h);", "reach a:1 @a:2;", "reach a:1 @-> a:2;", "reach a:1 @reach a:2;",
		"reach@", "reach @;", "reach @1 to a:2;", "isolate @drop:1 to a:2;", "isolate a@;", "reach a @1 to a:2;", "reach a @to a:2;", "reach a:@to a:2;", "reach a:1, @1 to a:2;", "reach a:1,@", "reach a:1, a@", "reach a:1, a:@;",
		"reach a:1 to@", "reach a:1 to@;", "reach a:1 to @1;", "reach a:1 to @, a:2;", "reach a:1 to @:2;", "isolate a:1 to @_;", "reach a:1 to to @a:2;", "reach a:1 to to@;",
		"reach a:1 to a@", "reach a:1 to a@;", "reach a:1 to a @2;", "reach a:1 to a:@", "reach a:1 to a:@;", "reach a:1 to a:2@", "reach a:1 to a:2 @to a:2;", "isolate a:1 to a:2 @to to:1;", "reach a:1 to a:2,@", "reach a:1 to a:2, @1;", "reach a:1 to a:2, to@;", "reach a:1 to a:2, to:1 @a:1;", "reach a:1 to a:2 @reach a:1;",
		// Behind a query.
		"drop a:1;@;", "drop a:1;@, a:2;", "drop a:1; @a:2;", "drop a:1;\n@where isValid(h);", "drop a:1; @to a:2;", "drop a:1; drop@", "drop a:1; loop @;", "reach a:1 to a:2; @x", "drop a:1 where isValid(h);@;", "drop a:1 where isValid(h); @x",
	)
}

func TestP14_1WrongBounds(t *testing.T) {
	x := usual(t)
	for _, b := range []struct {
		ahead        string
		below, above []string
	}{
		{"length ", nil, []string{"9", "10", "0x9", "009", "255"}},
		{"length 1; hops ", []string{"0", "00", "0x0"}, []string{"7", "8", "0x7", "255"}},
		{"length 1; hops 1; nodes ", []string{"0", "1", "0x1", "01"}, []string{"1048577", "1048578", "0x100001", "2097152"}},
	} {
		for _, s := range slices.Concat(b.below, b.above, strings.Fields("4294967297 4294967300 18446744073709551615 18446744073709551616 18446744073709551617 18446744073709551620 340282366920938463463374607431768211455")) {
			x.wantFault(t, api.ErrOver, b.ahead+"@"+s+";", b.ahead+"@"+s, b.ahead+"@"+s+" x")
		}
		// A width goes ahead, whatever the value is.
		for _, s := range strings.Fields("8w0 8w1 4w2 3w5 21w1048576 21w1048577 8w9 1w0 128w340282366920938463463374607431768211455") {
			x.wantFault(t, api.ErrWidth, b.ahead+"@"+s+";", b.ahead+"@"+s, b.ahead+"@"+s+" x")
		}
	}
	x.wantFault(t, api.ErrOver, "length @9; hops 0; nodes 1; drop b:1;", "length 8; hops @7; nodes 8w1;", "length 0; hops 6; nodes @1; ;", "length 0; hops 6; nodes @1; drop z:1;")
	x.wantFault(t, api.ErrWidth, "length @4w8; hops 0;", "length 8; hops @3w7; nodes 8w1;")
}

func TestP14_1TooManyQueries(t *testing.T) {
	x := usual(t)
	sixteen := bounds + strings.Repeat("drop a:1; ", 15) + "reach a:1 to a:2 where isValid(h);"
	a, f := ask.Read(x.tree, x.net, sixteen+" // drop a:1;\n ")
	if f != (api.Fault{}) || len(a.L) != 16 || a.L[14].Kind != api.AskDrop || a.L[15].Kind != api.AskReach {
		t.Fatal(a, f)
	}
	// At whatever token stands there.
	x.wantFault(t, api.ErrOver, sixteen+"@drop a:1;", sixteen+"\n @loop a:1;", sixteen+"@drop", sixteen+"@drop z:1;", sixteen+"@drop a:1; drop a:1;", sixteen+"@isolate;", sixteen+"@;", sixteen+"@1", sixteen+"@8w1", sixteen+"@}", sixteen+"@x", sixteen+"@where", sixteen+"@length 1;", sixteen+"// ;\n@:")
	for _, s := range sample.Strays() {
		x.wantFault(t, api.ErrOver, sixteen+"@"+s.S)
	}
	// What is wrong ahead of that is told.
	x.wantFault(t, api.ErrKind, strings.Replace(sixteen, "to a:2", "to a:@3", 1)+"drop a:1;")
	x.wantFault(t, api.ErrForm, strings.Replace(sixteen, "h);", "h) @to;", 1)+"drop a:1;")
	x.wantFault(t, api.ErrForm, strings.TrimSuffix(sixteen, ";")+" @drop a:1;")
}

func TestP14_1WrongEnds(t *testing.T) {
	x := usual(t)
	// Each list of ends, and what stands ahead of its last one.
	aheads := []string{"drop ", "loop ", "invalid ", "reach ", "isolate ", "drop where:7, ", "isolate where:7, ", "reach a:1 to ", "isolate a:1 to ", "reach a:1, a:2 to to:1, ", "isolate where:7 to where:7,\n"}
	wrong := func(e api.Errno, ends ...string) {
		t.Helper()
		for _, ahead := range aheads {
			for _, s := range ends {
				x.wantFaults(t, e, ahead+s+";", ahead+s, ahead+s+", z:1;", ahead+s+" x", ahead+s+" where port;", ahead+s+" where 1 ")
			}
		}
	}
	// A switch, ahead of what is behind it.
	wrong(api.ErrNone, "@b:1", "@A:1", "@aa:1", "@z", "@z:8w1", "@h:1", "@s:1", "@length:1", "@loop:1", "@isolate 1", "@abcdefghijklmnop:1")
	wrong(api.ErrNone, "a:@4", "a:@0", "a:@7", "a:@510", "a:@512", "c:@1", "reach:@1", "where:@9", "to:@3", "a:@18446744073709551617", "a:@340282366920938463463374607431768211455", "a:@4294967297", "c:@0")
	// A width goes ahead of all else.
	wrong(api.ErrWidth, "a:@8w1", "a:@9w1", "a:@1w1", "a:@8w4", "a:@9w0", "a:@9w3", "a:@9w511", "c:@8w1", "where:@8w7", "a:@128w340282366920938463463374607431768211455")
	wrong(api.ErrKind, "a:@3", "a:@511", "to:@2", "where:@8", "a:@0x3", "to:@002")
	// Linked, and there ahead too: it cannot have been read.
	x.wantFaults(t, api.ErrKind, "drop a:@3, a:3;", "reach a:1 to to:@2, to:2;", "reach a:@3 to a:3;")
	for _, ahead := range []string{"drop ", "loop ", "invalid ", "reach ", "isolate ", "reach a:1 to ", "isolate to:1, a:1 to "} {
		x.wantFaults(t, api.ErrTwice,
			ahead+"a:1, a:@1;", ahead+"a:1, a:2, a:@1;", ahead+"a:1, a:2, a:@2;", ahead+"where:7, a:1, to:1, reach:5, where:@7;", ahead+"a:1, a:@0x1;", ahead+"a:1, a:@01, z:1;", ahead+"a:1, a:@1", ahead+"a:1, a:@1 x", ahead+"to:1, to:@1, to:1;")
	}
	x.wantFaults(t, api.ErrWidth, "drop a:1, a:@9w1;", "reach a:1 to a:2, a:@1w1;")
}

// What layer 6 tells of an expression is told at its place, also where that has lines of its own.
func TestP14_1ExpressionsThatAreNone(t *testing.T) {
	x := usual(t)
	wrong := func(e api.Errno, exprs ...string) {
		t.Helper()
		for _, s := range exprs {
			for _, line := range []string{"drop a:1 where " + s + ";", "loop a:1 where\n" + s + ";", "reach a:1 to a:2 where // ;\n\t" + s + "; x", "isolate a:1\nto a:2\nwhere " + s + "\n;drop z:1;", "invalid a:1 where " + s + "; ;"} {
				x.wantFaults(t, e, line)
			}
		}
	}
	wrong(api.ErrForm,
		"@", "\n@", "// 1 ;\n@", "@drop", "@_", "@:", "@,", "@)", "@]", "@{ }", "@== 1", "@+ 1", "@&& 1", "meta@", "meta\n@", "meta @port", "@if", "@.f == 1",
		"port ==@", "port ==\n@", "port\n==\n\n@&& 1", "port == // 1\n  @", "port == @== 1", "1 == 2 @== 3", "port\n< 1\n@<= 2",
		"h.@", "h.@1", "h.\n@port", "h.f @h.f", "h.f\n@1", "port @port", "h.f == 1@, h.g == 2", "h.f == 1 @where h.g == 1", "h.f == 1 @to a:1", "h.f == 1 @drop a:2", "h.f == 1 @}",
		"(@", "(port@", "(port == 1@", "(port == 1\n@", "(port == 1) @)", "((port) == 1@", "isValid@", "isValid(@", "isValid(@)", "isValid(h@", "isValid(h)\n@)", "isValid(@1)", "isValid(h) @isValid(i)", "isValid @h",
		"h.f[@", "h.f[@x:0]", "h.f[1@]", "h.f[1:@]", "h.f[1:0@ == 1", "h.f[1:0]\n[@", "!@", "~@", "-\n@", "port << @port", "port << @", "port == 1 @&&& 1", "port @= 1", "port -@", "port @-> 1", "port @! 1",
	)
	wrong(api.ErrOver, "port << @128 == 1", "h.f[@128:0] == 1", "h.f[7:@128] == 1", "port\n==\n(port >>\n @340282366920938463463374607431768211455)")
	wrong(api.ErrWidth, "port << @8w1 == 1", "h.f[@8w7:0] == 1", "h.f[7:@1w0] == 1")
	wrong(api.ErrArg, "h.f[0:@1] == 1", "h.f[3:\n\n@7] == 1")
	wrong(api.ErrDeep, strings.Repeat("(", 49)+"@(port == 1"+strings.Repeat(")", 50), "\n"+strings.Repeat("!", 49)+"@!isValid(h)", "port"+strings.Repeat(" + 1", 15)+"\n@+ 1 == port", "@!"+strings.Repeat("!", 15)+"isValid(h)")
}

// What layer 10 tells of an expression is told at its first token, wherever the wrong part is.
func TestP14_1ExpressionsThatAreWrong(t *testing.T) {
	x := usual(t)
	wrong := func(e api.Errno, exprs ...string) {
		t.Helper()
		for _, s := range exprs {
			for _, line := range []string{"drop a:1 where @" + s + ";", "loop a:1 where\n@" + s + ";", "reach a:1 to a:2 where // ;\n\t@" + s + "; x", "isolate a:1\nto a:2\nwhere @" + s + "\n;drop z:1;", "invalid a:1 where @" + s + " // ;\n; ;"} {
				x.wantFaults(t, e, line)
			}
		}
	}
	wrong(api.ErrNone, "z.f == 1", "h.z == 1", "meta.z == 1", "isValid(z)", "isValid(h) || isValid(z)", "port == 1 &&\n\nh.z == 1",
		// Parameters are no action's here, and switches no headers.
		"x == 1", "port == x", "a.f == 1", "isValid(to)", "f",
		// The text's words are names here too.
		"where", "to", "to == 1", "reach.loop == 1")
	wrong(api.ErrKind, "port", "1", "h.f", "h.f + 1", "(port)", "9w1", "~port", "port ++ h.f", "port[0:0]", "meta.o", "!port", "!meta.o", "isValid(h) == isValid(i)", "isValid(h) + 1", "port == 1 && port", "port || isValid(h)", "isValid(h) ++ port == 1", "port == 1 && // x\n\t(h.f == isValid(h))")
	wrong(api.ErrWidth, "1 == 1", "port == 8w1", "port == h.f", "h.f == h.g", "1[0:0] == 1", "1 ++ port == 1", "isValid(h) && 1 < 2", "1 << 1 == port")
	wrong(api.ErrOver, "port == 512", "h.f == 256", "h.f[8:0] == 1", "h.f < 340282366920938463463374607431768211455", "meta.w ++ meta.f == 1", "isValid(h) && meta.o == 2")
	// Behind what layer 6 tells, also where that stands further behind.
	x.wantFaults(t, api.ErrForm, "drop a:1 where z.f == 1 @1;", "drop a:1 where port + 1@)\n;", "drop a:1 where x @x;")
	// Ahead of what stands behind the ; .
	x.wantFaults(t, api.ErrKind, "drop a:1 where @port;;", "drop a:1 where @port; drop z:1;", "drop a:1 where @port; drop a:1 where 1 1;")
}

// Without a ; behind a where there is no expression: whatever stands there, the fault is at the end.
func TestP14_1WhereWithoutEnd(t *testing.T) {
	x := usual(t)
	for _, s := range []string{"", "\n", " // ;\n", "isValid(h)", "isValid(h) // ;", "port", "port ==", "z.f == 1", "1 1 1", "drop", "drop a:1 where isValid(h)", "h.f == 1 drop z:1 to", "where where", ", , :", "x\n\n", strings.Repeat("(", 60), "port << 128", "h.f[0:1]", "16w1 16w1 } { ) ("} {
		x.wantFaults(t, api.ErrForm, "drop a:1 where "+s+"@", "reach a:1 to a:2 where "+s+"@", "loop a:1 where isValid(h); isolate a:1, a:2 to to:1\nwhere\n"+s+"@")
	}
	// The next ; is that of the query behind.
	x.wantFaults(t, api.ErrForm, "drop a:1 where isValid(h) @drop a:2;", "drop a:1 where @drop a:2;", "drop a:1 where isValid(h) @drop a:2 where port;", "drop a:1 where port @reach a:1 to a:2;")
	x.wantFaults(t, api.ErrNone, "drop a:1, @z:1 where isValid(h)", "drop a:@4 where", "drop @z:1 where 1 1")
}

// What layer 3 tells goes ahead of all, wherever it stands.
func TestP14_1Lex(t *testing.T) {
	x := usual(t)
	x.wantFault(t, api.ErrForm, ") @$", "length 9; @12x", bounds+"drop z:1; @#", bounds+"drop a:1 where 1 1; loop @\"a\"", bounds+"drop a:1 where port @? 1;", bounds+"drop a:1 where port; @\x00")
	x.wantFault(t, api.ErrOver, "; @4w16", "length @340282366920938463463374607431768211456;", bounds+"drop z:@340282366920938463463374607431768211456;", bounds+"drop a:1 where port ==\n @8w256;", bounds+strings.Repeat("drop a:1;", 17)+"@1w2")
	x.wantFault(t, api.ErrWidth, "; ;\n @0w0", bounds+"drop z:@129w1;", bounds+"drop a:1 where x == @0w1;")
	x.wantFault(t, api.ErrLong, "; @abcdefghijklmnopq", bounds+"drop @abcdefghijklmnopq:1;", bounds+"drop a:1 where 1 1 + @abcdefghijklmnopq;", "@;"+strings.Repeat(" ", api.MaxText), "@"+wholeText+strings.Repeat("\n", api.MaxText))
}

// Of what is wrong at several places the one that is first, from left to right.
func TestP14_1Order(t *testing.T) {
	x := usual(t)
	parts := []struct {
		fine, wrong string
		e           api.Errno
	}{
		{"length", "@hops", api.ErrForm}, {"1", "@9", api.ErrOver}, {";", "@,", api.ErrForm}, {"hops", "@hop", api.ErrForm}, {"2", "@0", api.ErrOver}, {";", "@x", api.ErrForm}, {"nodes", "@;", api.ErrForm}, {"1000", "@10w1000", api.ErrWidth}, {";", "@:", api.ErrForm},
		{"reach", "@to", api.ErrForm}, {"a", "@b", api.ErrNone}, {":", "@;", api.ErrForm}, {"1", "@4", api.ErrNone}, {",", "@;", api.ErrForm}, {"to", "@drop", api.ErrForm}, {":", "@,", api.ErrForm}, {"1", "@1w1", api.ErrWidth},
		{"to", "@where", api.ErrForm}, {"to", "@b", api.ErrNone}, {":", "@.", api.ErrForm}, {"1", "@2", api.ErrKind}, {",", "@to", api.ErrForm}, {"a : 1", "a : @0", api.ErrNone}, {";", "@)", api.ErrForm},
		{"drop", "@a", api.ErrForm}, {"a : 1", "a : 1 , a : @1", api.ErrTwice}, {"where", "@if", api.ErrForm}, {"h.f == 1", "@h.z == 1", api.ErrNone}, {";", "; @where ;", api.ErrForm},
		{"loop", "@where", api.ErrForm}, {"a : 2", "a : @3", api.ErrKind}, {"where", "@to", api.ErrForm}, {"isValid(h)", "isValid(@1)", api.ErrForm}, {";", "@, ;", api.ErrForm},
	}
	textOf := func(wrong ...int) string {
		s := ""
		for i, x := range parts {
			switch at := slices.Index(wrong, i); {
			case at == 0:
				s += " " + x.wrong
			case at > 0:
				s += " " + strings.Replace(x.wrong, "@", "", 1)
			default:
				s += " " + x.fine
			}
		}
		return s
	}
	x.wantRead(t, textOf(), bounded(
		api.Ask{Kind: api.AskReach, From: ends(end(atA, 1), end(atTo, 1)), To: ends(end(atTo, 1), end(atA, 1))},
		api.Ask{Kind: api.AskDrop, From: ends(end(atA, 1)), Pred: x.code(t, "h.f == 1")},
		api.Ask{Kind: api.AskLoop, From: ends(end(atA, 2)), Pred: x.code(t, "isValid(h)")}))
	for i, p := range parts {
		x.wantFault(t, p.e, textOf(i), textOf(i)+" drop z:1;", textOf(i)+";")
		for j := i + 1; j < len(parts); j++ {
			x.wantFault(t, p.e, textOf(i, j))
		}
	}
}

func (x setup) wantReckoned(t *testing.T, s string) api.Errno {
	t.Helper()
	got, f := ask.Read(x.tree, x.net, s)
	want, wantFault := reckonedRead(x, s)
	if f != wantFault || f.E == api.OK && !same(got, want) {
		t.Errorf("Read of %.1000q is %v, %v, want %v, %v", s, got, f, want, wantFault)
	}
	if f.E == api.OK && !ask.May(x.prog, x.net, got) {
		t.Errorf("what Read tells of %.1000q may not be: %v", s, got)
	}
	if f.E != api.OK && !isNothing(got) {
		t.Errorf("beside %v of %.1000q is told %v", f, s, got)
	}
	return f.E
}

func wantAll(t *testing.T, told map[api.Errno]int, least int) {
	t.Helper()
	for _, e := range []api.Errno{api.OK, api.ErrForm, api.ErrOver, api.ErrNone, api.ErrTwice, api.ErrKind, api.ErrWidth} {
		if told[e] < least {
			t.Errorf("told are %v", told)
		}
	}
}

func mores() []api.Token {
	l, _ := sample.Tokens("length hops nodes reach isolate loop to where a c z h i f g m o 0 1 2 3 5 6 7 8 9 511 512 1048576 1048577 1w0 1w1 8w1 9w1 18446744073709551617 340282366920938463463374607431768211455 , , : : ; ;")
	return append(l, sample.Strays()...)
}

// Each token of a text lacks, or another one stands there or ahead of it: what is told is what is reckoned.
func TestP14_1EachToken(t *testing.T) {
	x := usual(t)
	told := map[api.Errno]int{}
	fourteen := bounds + strings.Repeat("drop a:1;", 14)
	for _, part := range [][2]string{{"", wholeText}, {fourteen, "reach a:1,a:2 to a:2 where port[3:0]<5;loop to:1;"}} {
		ahead, _ := sample.Tokens(part[0])
		l, is := sample.Tokens(part[0] + part[1])
		if !is {
			t.Fatal("no tokens")
		}
		sample.EachSwap(l, mores(), func(swap sample.Swap) {
			if swap.At < len(ahead) {
				return
			}
			text, _ := sample.Spelt(swap.In(l))
			told[x.wantReckoned(t, text)]++
		})
	}
	wantAll(t, told, 10)
}

// Texts by chance, with a few tokens changed: what is told is what is reckoned.
func TestP14_1AnyTexts(t *testing.T) {
	m := newMaker(141, usual(t))
	more := mores()
	told := map[api.Errno]int{}
	for range 10000 {
		_, s := m.asks(pick(m, 1, 3, 17))
		if m.Intn(8) == 0 {
			s += strings.Repeat("loop a:1;", m.Intn(18))
		}
		l, is := sample.Tokens(s)
		if !is {
			t.Fatal("no tokens")
		}
		for range pick(m, 0, 1, 1, 2, 3) {
			swap := sample.Swap{At: m.Intn(len(l)), Lack: m.Intn(2)}
			switch m.Intn(6) {
			case 0:
			case 1:
				swap.More = append(swap.More, l[m.Intn(len(l))])
			case 2, 3:
				swap.More = append(swap.More, more[m.Intn(len(more))])
			default:
				swap = m.behindEnd(l)
			}
			l = swap.In(l)
		}
		s, _ = sample.Spelt(l)
		told[m.wantReckoned(t, s)]++
	}
	wantAll(t, told, 50)
}

// behindEnd lays an end, or a predicate, behind one of the ends of a row of tokens, or behind all.
func (m maker) behindEnd(l []api.Token) sample.Swap {
	at := len(l)
	for i, k := range m.Perm(len(l)) {
		if i < 20 && k > 0 && l[k-1].Kind == api.TokNumber && strings.Contains(" ; , to where ", " "+l[k].S+" ") {
			at = k
			break
		}
	}
	row, _ := sample.Tokens(pick(m, ", a : 1", ", a : 2", ", to : 1", ", a : 3", ", a : 511", ", where : 8", ", c : 1", ", reach : 8w5", "where port", "where 1 == 1", "where h.f == 256", "where isValid(z)"))
	return sample.Swap{At: at, More: row}
}

// Tokens in no order, and bytes of all kinds: each call ends with a fault at a place of the text, or with what may be.
func TestP1Soup(t *testing.T) {
	m := newMaker(1, usual(t))
	words, _ := sample.Tokens("reach isolate drop loop invalid a : 1 a : 2 a : 3 , , to to where where isValid ( h ) port == 1 ; ; ; z 8w1")
	for range 20000 {
		s := sample.Soup(m.Intn)
		if m.Intn(2) == 0 {
			var l []api.Token
			for range m.Intn(20) {
				l = append(l, words[m.Intn(len(words))])
			}
			s, _ = sample.Spelt(l)
		}
		if m.Intn(3) > 0 {
			s = bounds + s
		}
		if m.wantReckoned(t, s) == api.OK {
			continue
		}
		_, f := ask.Read(m.tree, m.net, s)
		if _, is := text.At(s, f.At); !is {
			t.Errorf("Read of %q: no place %v", s, f)
		}
	}
}
