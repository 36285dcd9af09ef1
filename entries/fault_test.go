package entries_test

import (
	"slices"
	"strings"
	"testing"

	"quillon/api"
	"quillon/entries"
	"quillon/lower"
	"quillon/num"
	"quillon/sample"
	"quillon/text"
)

func TestP12_1Form(t *testing.T) {
	p := lowered(t, whole)
	wantFault(t, p, api.ErrForm,
		// A switch and a table.
		"@;", "@1", "@.t: _ -> no();", "@_.t: _ -> no();", "@port.t: _ -> no();", "@table.t: _ -> no();", "@->", "@(s1).t: _ -> no();",
		"s1@", "s1 @t: _ -> no();", "s1@: _ -> no();", "s1@, prio.t: _ -> no();", "s1 @; ", "s1.@", "s1.@: _ -> no();", "s1.@1: _ -> no();", "s1.@_: _ -> no();", "s1.@.t: _ -> no();", "s1.@key: _ -> no();",
		"s1.t@", "s1.t @_ -> no();", "s1.t@.t: _ -> no();", "s1.t@; _ -> no();", "s1.t @= _ -> no();", "s1.t@(_) -> no();",
		// Patterns.
		"s1.t:@", "s1.t: @-> no();", "s1.t: @prio 1 -> no();", "s1.t: @, _ -> no();", "s1.t: @x -> no();", "s1.t: @/4 -> no();", "s1.t: @&&& 4 -> no();", "s1.t: @-1/4 -> no();", "s1.t: @(1)/4 -> no();", "s1.t: @default -> no();", "s1.t: @: _ -> no();",
		"s1.t: 1/@", "s1.t: 1/@_ -> no();", "s1.t: 1/@x -> no();", "s1.t: 1/@-> no();", "s1.t: 1/ @/4 -> no();", "s1.m: 1 &&& @_ -> no();", "s1.m: 1 &&& @-> no();", "s1.m: 1 &&& @&&& 1 -> no();", "s1.m: 1 &&& @/ 1 -> no();", "s1.m: 1 &&&@",
		"s1.t: 1/2@/3 -> no();", "s1.t: 1/2 @&&& 3 -> no();", "s1.m: 1 &&& 2@/3 -> no();", "s1.m: 1 &&& 2 @&&& 3 -> no();", "s1.t: _@/3 -> no();", "s1.m: _ @&&& 3 -> no();", "s1.m: 1 @& 3 -> no();", "s1.m: 1 @&& 3 -> no();",
		"s1.t: _@", "s1.t: 1/2@", "s1.m: 5@", "s1.t: _@;", "s1.t: _ @_ -> no();", "s1.t: _ @1 -> no();", "s1.t: _ @no();", "s1.t: _@: -> no();", "s1.t: _@) -> no();", "s1.t: _ @- > no();", "s1.t: _ @> no();", "s1.t: _ @= no();", "s1.t: _ @priority 1 -> no();",
		"s1.t: _,@", "s1.t: _, @-> no();", "s1.t: _, @prio 1 -> no();", "s1.t: _, @, _ -> no();", "s1.t: _, @x -> no();", "s1.x: _, @-> no();", "s1.x: _,@;", "s1.prio: 1, _, _, @no();",
		// A priority.
		"s1.t: _ prio@", "s1.t: _ prio @-> no();", "s1.t: _ prio @x -> no();", "s1.t: _ prio @_ -> no();", "s1.t: _ prio @-1 -> no();", "s1.t: _ prio @prio 1 -> no();", "s1.t: _ prio @: 1 -> no();",
		"s1.t: _ prio 1@", "s1.t: _ prio 1 @2 -> no();", "s1.t: _ prio 1 @prio 2 -> no();", "s1.t: _ prio 1@, _ -> no();", "s1.t: _ prio 1 @no();", "s1.t: _ prio 1@;", "s1.t: _ prio 1@/2 -> no();",
		// What is run.
		"s1.t: _ ->@", "s1.t: _ -> @;", "s1.t: _ -> @();", "s1.t: _ -> @1();", "s1.t: _ -> @drop();", "s1.t: _ -> @_();", "s1.t: _ -> @-> no();", "s1.t: _ -> @(no)();",
		"s1.t: _ -> no@", "s1.t: _ -> no@;", "s1.t: _ -> no @1;", "s1.t: _ -> no@.no();", "s1.t: _ -> no @no();", "s1.t: _ -> no@{ };", "s1.t: _ -> no@, fwd(1);",
		"s1.t: _ -> no(@", "s1.t: _ -> no(@;", "s1.t: _ -> no(@x);", "s1.t: _ -> no(@,);", "s1.t: _ -> no(@());", "s1.t: _ -> fwd(@_);", "s1.t: _ -> fwd(@-1);", "s1.t: _ -> fwd(@(1));", "s1.t: _ -> fwd(@, 1);", "s1.t: _ -> fwd(@x);", "s1.t: _ -> fwd(@;", "s1.t: _ -> fwd(@",
		"s1.t: _ -> fwd(1@", "s1.t: _ -> fwd(1@;", "s1.t: _ -> fwd(1 @2);", "s1.t: _ -> fwd(1@/2);", "s1.t: _ -> fwd(1 @+ 1);", "s1.t: _ -> fwd(1 @&&& 1);", "s1.t: _ -> fwd(1,@", "s1.t: _ -> fwd(1, @);", "s1.t: _ -> fwd(1, @x);", "s1.t: _ -> fwd(1, @_);", "s1.t: _ -> fwd(1,@,2);", "s1.e: 1 -> put(1, @);", "s1.e: 1 -> put(1, 1@;",
		"s1.t: _ -> no()@", "s1.t: _ -> no() @s1.t: _ -> no();", "s1.t: _ -> no()@, no();", "s1.t: _ -> no()@)", "s1.t: _ -> no() @prio 1;", "s1.t: _ -> no()@:", "s1.t: _ -> no() // ;\n@",
		// Behind an entry.
		"s1.t: _ -> no();@;", "s1.t: _ -> no(); @.t: _ -> no();", "s1.t: _ -> no(); @_", "s1.t: _ -> no();\n@1", "s1.t: _ -> no(); s1@", "s1.t: _ -> no();\n\ns1.t: _ -> no() @x",
	)
}

func TestP12_1None(t *testing.T) {
	p := lowered(t, whole)
	wantFault(t, p, api.ErrNone,
		"@s2.t: _ -> no();", "@t.t: _ -> no();", "@S1.t: _ -> no();", "@s1x", "@s;", "@no.t: _ -> no();", "s1.t: _ -> no(); @s2.t: _ -> no();",
		"s1.@s1: _ -> no();", "s1.@u: _ -> no();", "s1.@T: _ -> no();", "s1.@no: _ -> no();", "s1.@tt;", "s1.@h", "s1.t: _ -> no(); prio.@s1: _ -> no();",
		"s1.t: _ -> @nothing();", "s1.t: _ -> @t();", "s1.t: _ -> @s1();", "s1.t: _ -> @No();", "s1.t: _ -> @n;",
		// There, but not listed.
		"s1.t: _ -> @put(1, 1, 1);", "s1.t: _ -> @prio(1);", "s1.t: _ -> @two(1, 1);", "s1.e: 1 -> @prio(1);", "s1.m: 1 -> @put(1, 1, 1);", "s1.prio: 1, _, _, _ -> @fwd(1);", "s1.x: _, 1 -> @put(1, 1, 1);", "s1.t: _ prio 5 -> @two;",
		"s1.t: _ -> @prio 1 -> no();",
	)
	wantFaultAt(t, p, nil, "s1.t: _ -> no();", 0, api.ErrNone)
}

func TestP12_1OverPatterns(t *testing.T) {
	p := lowered(t, whole)
	wantFault(t, p, api.ErrOver,
		"s1.t: _, @_ -> no();", "s1.t: _, @1/2 -> no();", "s1.t: _, @1 -> no();", "s1.t: _, @_, _ -> no();", "s1.t: 1/2, @9w512", "s1.e: 1, @2 -> no();", "s1.m: 1 &&& 2, @3 &&& -> no();", "s1.m: 1, @_ x", "s1.x: _, 1, @1 -> no();", "s1.x: _, 1, @_;", "s1.prio: 1, _, _, _, @_ -> no();", "s1.prio: 1, _, _, _, @1/", "s1.prio: 1, _, _, _, @1/x",
	)
	// What stands there and begins no pattern is none that is one too many.
	wantFault(t, p, api.ErrForm, "s1.t: _, @x -> no();", "s1.t: _, @-> no();", "s1.t: _, @", "s1.prio: 1, _, _, _, @;")
}

func TestP12_1Kind(t *testing.T) {
	p := lowered(t, whole)
	wantFault(t, p, api.ErrKind,
		"s1.e: @_ -> no();", "s1.e: @1/2 -> no();", "s1.e: @1 &&& 2 -> no();", "s1.t: @1 -> no();", "s1.t: @1 &&& 2 -> no();", "s1.m: @1/2 -> no();",
		"s1.e: @1/8 -> no();", "s1.e: @1 &&& 255 -> no();", "s1.t: @240 &&& 240 -> no();", "s1.m: @240/4 -> no();",
		"s1.prio: @_, _, _, _ -> no();", "s1.prio: @1/1, _, _, _ -> no();", "s1.prio: 1, @1/1, _, _ -> no();", "s1.prio: 1, _, @1, _ -> no();", "s1.prio: 1, _, @1 &&& 1, _ -> no();", "s1.prio: 1, _, _, @1/1 -> no();", "s1.x: @1, 1 -> no();", "s1.x: _, @_ -> no();",
		// Found once the pattern is read: ahead of all behind that,
		"s1.e: @_", "s1.e: @_ x", "s1.e: @_, 1 -> no();", "s1.t: @1", "s1.t: @1;", "s1.t: @1 2", "s1.t: @1 prio x", "s1.m: @1/2;", "s1.m: @1/2/3 -> no();", "s1.e: @1 &&& 2 &&& 3 -> no();", "s1.x: @1 -> no();", "s1.x: _, @_, 1 -> no();", "s1.e: @1/2 -> nothing();",
		// and of its numbers.
		"s1.t: @9w1 -> no();", "s1.t: @256 -> no();", "s1.m: @9w1/2 -> no();", "s1.m: @256/2 -> no();", "s1.m: @1/9 -> no();", "s1.m: @1/8w1 -> no();", "s1.e: @9w1 &&& 1 -> no();", "s1.e: @1 &&& 9w1 -> no();", "s1.e: @256/256 -> no();",
	)
	// Behind what is wrong in the pattern, and behind one that is too many.
	wantFault(t, p, api.ErrForm, "s1.e: 1/@x -> no();", "s1.e: 1 &&& @-> no();", "s1.m: 1/@;", "s1.t: 1 &&& @")
	wantFault(t, p, api.ErrOver, "s1.e: 1, @_ -> no();", "s1.e: 1, @1/2 -> no();")
}

func TestP12_1NumbersOfKeys(t *testing.T) {
	p := lowered(t, whole)
	wantFault(t, p, api.ErrWidth,
		"s1.e: @7w1 -> no();", "s1.e: @9w1 -> no();", "s1.e: @9w511 -> no();", "s1.e: @128w1 -> no();", "s1.m: @1w1 -> no();", "s1.m: @9w1 &&& 1 -> no();", "s1.m: 1 &&& @7w1 -> no();", "s1.m: 8w1 &&& @9w1 -> no();", "s1.t: @7w1/3 -> no();", "s1.t: @9w500/3 -> no();",
		"s1.t: 1/@8w3 -> no();", "s1.t: 1/@3w3 -> no();", "s1.t: 8w1/@8w3 -> no();", "s1.t: 1/@8w200 -> no();", "s1.t: 1/@8w0 -> no();", "s1.t: 1/@1w1;",
		"s1.prio: @2w1, _, _, _ -> no();", "s1.prio: 1, @127w1, _, _ -> no();", "s1.prio: 1, _, @8w1/1, _ -> no();", "s1.prio: 1, _, _, @8w1 -> no();", "s1.prio: 1, _, 1/@9w1, _ -> no();",
		// The first one of a pattern that is wrong.
		"s1.m: @7w1 &&& 256 -> no();", "s1.m: @7w1 &&& 9w1 -> no();", "s1.t: @9w1/9 -> no();", "s1.t: @9w1/8w1 -> no();",
		// Ahead of what is behind.
		"s1.m: @9w1", "s1.m: @9w1;", "s1.m: @9w1 &&& 1 &&&", "s1.x: @8w1/1 -> no();", "s1.x: @8w1/1, _ -> no();", "s1.t: 1/@8w1 prio",
	)
	wantFault(t, p, api.ErrOver,
		"s1.e: @256 -> no();", "s1.e: @340282366920938463463374607431768211455 -> no();", "s1.e: @18446744073709551616 -> no();", "s1.m: @256 -> no();", "s1.m: @256 &&& 1 -> no();", "s1.m: 1 &&& @256 -> no();", "s1.m: 8w1 &&& @256 -> no();", "s1.t: @256/0 -> no();", "s1.t: @256/8 -> no();",
		"s1.t: 1/@9 -> no();", "s1.t: 1/@256 -> no();", "s1.t: 1/@18446744073709551616 -> no();", "s1.t: 1/@18446744073709551617 -> no();", "s1.t: 1/@340282366920938463463374607431768211455 -> no();", "s1.t: 8w1/@9 -> no();",
		"s1.prio: @2, _, _, _ -> no();", "s1.prio: 1, _, @512/1, _ -> no();", "s1.prio: 1, _, 1/@10, _ -> no();", "s1.prio: 1, _, _, @128 -> no();", "s1.prio: 1, _, _, 1 &&& @128 -> no();", "s1.x: 1/@129, 1 -> no();",
		"s1.m: @256 &&& 256 -> no();", "s1.m: @256 &&& 9w1 -> no();", "s1.t: @256/9 -> no();", "s1.t: @256/8w1 -> no();",
		"s1.m: @256", "s1.m: @256 x", "s1.x: 1/@129 -> no();", "s1.t: 1/@9;",
	)
}

func TestP12_1Short(t *testing.T) {
	p := lowered(t, whole)
	wantFault(t, p, api.ErrShort,
		"s1.x: _ @-> no();", "s1.x: 1/2 @-> no();", "s1.x: 1/2 @prio 1 -> no();", "s1.x: _ @prio", "s1.x: _ @->", "s1.prio: 1 @-> no();", "s1.prio: 1, _ @-> no();", "s1.prio: 1, _, _ @-> no();", "s1.prio: 1, _, _ @prio 8w1 -> no();", "s1.prio: 1, 2 @-> nothing();",
	)
	// What may not stand there at all.
	wantFault(t, p, api.ErrForm, "s1.x: _@;", "s1.x: _@", "s1.x: _ @1 -> no();", "s1.x: _@: 1 -> no();", "s1.prio: 1, _, _ @_ -> no();", "s1.prio: 1, _, 1/2 @x")
	wantFault(t, p, api.ErrShort,
		"s1.t: _ -> fwd(@);", "s1.t: _ -> fwd(@)", "s1.t: _ -> fwd(@) x", "s1.e: 1 -> put(@);", "s1.e: 1 -> put(1@);", "s1.e: 1 -> put(1, 1@);", "s1.x: _, 1 -> two(1 @);", "s1.m: 1 -> prio(@);",
	)
}

func TestP12_1Priorities(t *testing.T) {
	p := lowered(t, whole)
	wantFault(t, p, api.ErrWidth, "s1.t: _ prio @8w1 -> no();", "s1.t: _ prio @17w65536 -> no();", "s1.t: _ prio @17w65537 -> no();", "s1.t: _ prio @128w0 -> no();", "s1.t: _ prio @8w1", "s1.t: _ prio @8w1;")
	wantFault(t, p, api.ErrOver, "s1.t: _ prio @65537 -> no();", "s1.t: _ prio @0x10001 -> no();", "s1.t: _ prio @4294967296 -> no();", "s1.t: _ prio @18446744073709551616 -> no();", "s1.t: _ prio @18446744073709551617 -> no();", "s1.t: _ prio @340282366920938463463374607431768211455 -> no();", "s1.t: _ prio @65537 x")
}

func TestP12_1Arguments(t *testing.T) {
	p := lowered(t, whole)
	wantFault(t, p, api.ErrOver,
		// One too many, whatever is wrong with it.
		"s1.t: _ -> no(@1);", "s1.t: _ -> no(@9w1);", "s1.t: _ -> no(@1", "s1.t: _ -> fwd(1, @2);", "s1.t: _ -> fwd(1, @2, 3);", "s1.t: _ -> fwd(1, @8w2);", "s1.t: _ -> fwd(1, @512;", "s1.e: 1 -> put(1, 1, 1, @1);", "s1.x: _, 1 -> two(1, 1, @2);", "s1.m: 1 -> prio(1, @1 x",
		// Too great.
		"s1.t: _ -> fwd(@512);", "s1.t: _ -> fwd(@18446744073709551616);", "s1.t: _ -> fwd(@512, 1);", "s1.t: _ -> fwd(@512 x", "s1.e: 1 -> put(@256, 1, 1);", "s1.e: 1 -> put(1, @2, 1);", "s1.e: 1 -> put(1, @2);", "s1.m: 1 -> prio(@18446744073709551616);", "s1.x: _, 1 -> two(1, @2);", "s1.x: _, 1 -> two(@2, 2);",
	)
	wantFault(t, p, api.ErrWidth,
		"s1.t: _ -> fwd(@8w1);", "s1.t: _ -> fwd(@10w1);", "s1.t: _ -> fwd(@10w1023);", "s1.t: _ -> fwd(@8w1 x", "s1.e: 1 -> put(@9w1, 1, 1);", "s1.e: 1 -> put(8w1, @8w1, 1);", "s1.e: 1 -> put(1, 1, @127w1);", "s1.m: 1 -> prio(@128w1);",
	)
}

func TestP12_1TooManyEntries(t *testing.T) {
	p := lowered(t, whole)
	many := strings.Repeat("s1.t: _ -> no();", 64)
	l, f := entries.Read(p, ends(), many)
	if f != (api.Fault{}) || len(l) != 3 || len(l[0]) != 64 {
		t.Fatal(len(l), f)
	}
	wantFault(t, p, api.ErrOver,
		many+"@s1.t: _ -> no();", many+"\n @s1.t: _ -> no();", many+"@s1", many+"@s1;", many+"@s1.nothing: _ -> no();", many+"@s1.e: _ -> no();", many+"@s1.t: 512/9",
		many+"prio.t: _ -> no(); @s1.t: _ -> no();", many+"_1.e: 1 -> no(); prio.e: 1 -> no(); @s1.e: 1 -> no(); s1.e: 1",
	)
	wantFault(t, p, api.ErrNone, many+"@s2.t: _ -> no();")
	wantFault(t, p, api.ErrForm, many+"@;", many+"@if.t: _ -> no();")
	// Each switch has its own; all of them are there.
	s := ""
	for range 64 {
		s += "_1.e: 3 -> no();\ns1.t: _ -> no();\nprio.m: 5 -> no();\n"
	}
	l, f = entries.Read(p, ends(), s)
	if f != (api.Fault{}) || len(l) != 3 || len(l[0]) != 64 || len(l[1]) != 64 || len(l[2]) != 64 {
		t.Fatal(len(l), f)
	}
	for _, name := range ends() {
		wantFault(t, p, api.ErrOver, s+"@"+name+".t: _ -> no();")
	}
}

// What layer 3 tells goes ahead of all, wherever it stands.
func TestP12_1Lex(t *testing.T) {
	p := lowered(t, whole)
	wantFault(t, p, api.ErrForm, ") @$", "s2.t: _ -> no(); @12x", "s1.t: 256/1 -> no(); @#", "s1.t: 1 -> @\"no\"();")
	wantFault(t, p, api.ErrOver, "; @4w16", "s2.t: @340282366920938463463374607431768211456 -> no();", "s1.t: 1 -> nothing(@8w256);")
	wantFault(t, p, api.ErrWidth, "; ;\n @0w0", "s1.t: @129w1 -> no();")
	wantFault(t, p, api.ErrLong, "; @abcdefghijklmnopq", "s1.t: _ -> @abcdefghijklmnopq();", "@;"+strings.Repeat(" ", api.MaxText), "@s1.t: _ -> no();"+strings.Repeat("\n", api.MaxText))
	s := "s1.t: _ -> no();"
	if _, f := entries.Read(p, ends(), s+strings.Repeat(" ", api.MaxText-len(s))); f != (api.Fault{}) {
		t.Error(f)
	}
}

// Of what is wrong at several places the one that is first, from left to right.
func TestP12_1Order(t *testing.T) {
	p := lowered(t, whole)
	parts := []struct {
		fine, wrong string
		e           api.Errno
	}{
		{"s1", "@s2", api.ErrNone}, {".", "@,", api.ErrForm}, {"prio", "@u", api.ErrNone}, {":", "@;", api.ErrForm},
		{"1", "@_", api.ErrKind}, {",", "@:", api.ErrForm}, {"5 &&& 6", "5 &&& @127w6", api.ErrWidth}, {",", "@x", api.ErrForm}, {"7/9", "7/@10", api.ErrOver}, {",", "@1", api.ErrForm}, {"_", "@128", api.ErrOver},
		{"prio", "@:", api.ErrForm}, {"3", "@65537", api.ErrOver}, {"->", "@=", api.ErrForm}, {"put", "@fwd", api.ErrNone}, {"(", "@;", api.ErrForm},
		{"3", "@256", api.ErrOver}, {",", "@.", api.ErrForm}, {"1", "@8w1", api.ErrWidth}, {",", "@_", api.ErrForm}, {"9", "@127w1", api.ErrWidth}, {")", "@]", api.ErrForm}, {";", "@x", api.ErrForm},
	}
	textOf := func(wrong ...int) string {
		s := ""
		for i, x := range parts {
			switch at := slices.Index(wrong, i); {
			case at == 0:
				s += " " + x.wrong
			case at > 0:
				s += " " + strings.Replace(x.wrong, "@", "", 1)
			default:
				s += " " + x.fine
			}
		}
		return s
	}
	if _, f := entries.Read(p, ends(), textOf()); f != (api.Fault{}) {
		t.Fatal(f, textOf())
	}
	for i, x := range parts {
		wantFault(t, p, x.e, textOf(i), textOf(i)+" s1.t: _ -> no();", "s1.t: _ -> no();"+textOf(i))
		for j := i + 1; j < len(parts); j++ {
			wantFault(t, p, x.e, textOf(i, j))
		}
	}
}

// Each token of a text lacks, or another one stands there or ahead of it: what is told is what is reckoned.
func TestP12_1EachToken(t *testing.T) {
	p := lowered(t, whole)
	const s = "s1.t: 192/4 -> fwd(2); prio.prio: 1, 5 &&& 6, _, 127 prio 3 -> put(255, 1, 128w9); _1.x: _, 1w0 prio 0 -> two(0, 1); s1.e: 8w7 -> no();"
	l, _ := sample.Tokens(s)
	more, _ := sample.Tokens("s1 s2 prio t e m x u fwd no put two 1 2 8 9 10 255 256 512 65536 65537 1w0 7w1 9w1 64w3 128w1 340282366920938463463374607431768211455")
	told := map[api.Errno]int{}
	sample.EachSwap(l, append(sample.Strays(), more...), func(x sample.Swap) {
		text, _ := sample.Spelt(x.In(l))
		told[wantReckoned(t, p, ends(), text)]++
	})
	for _, e := range []api.Errno{api.OK, api.ErrForm, api.ErrNone, api.ErrOver, api.ErrKind, api.ErrWidth, api.ErrShort} {
		if told[e] < 5 {
			t.Errorf("told are %v", told)
		}
	}
}

func wantReckoned(t *testing.T, p api.Prog, switches []string, s string) api.Errno {
	t.Helper()
	got, f := entries.Read(p, switches, s)
	want, wantFault := reckonedRead(p, switches, s)
	if f != wantFault || !same(got, want) || len(got) != len(want) {
		t.Errorf("Read of %.1000q is %v, %v, want %v, %v", s, got, f, want, wantFault)
	}
	for n, l := range got {
		if !entries.May(p, l) {
			t.Errorf("what Read tells of %.1000q for the switch %d may not be", s, n)
		}
	}
	return f.E
}

// entryText is an entry's text by chance: each pattern in each form that its key lets be, numbers with a width or without, or in hex.
func (m maker) entryText(name string) string {
	e := m.entry()
	x := m.p.Tabs[e.Tab]
	s := name + "." + m.p.Names.Tables[e.Tab] + ":"
	for k, pat := range e.Pats {
		if k > 0 {
			s += ","
		}
		w, _ := lower.Width(m.p, -1, x.Keys[k])
		bits := num.Or(pat.V, num.And(m.number(w), num.Not(pat.M, w)))
		switch {
		case pat.M == one(0) && m.Intn(2) == 0:
			s += "_"
		case x.Kinds[k] == api.KeyPrefix:
			s += m.written(bits, w) + "/" + m.written(one(uint64(e.Len)), 0)
		case x.Kinds[k] == api.KeyExact, pat.M == num.Mask(w) && m.Intn(2) == 0:
			s += m.written(bits, w)
		default:
			s += m.written(bits, w) + "&&&" + m.written(pat.M, w)
		}
	}
	if e.Prio > 0 || m.Intn(3) == 0 {
		s += " prio " + m.written(one(uint64(e.Prio)), 0)
	}
	s += "->" + m.p.Names.Actions[e.Run.Act] + "("
	for k, n := range e.Run.Args {
		if k > 0 {
			s += ","
		}
		s += m.written(n, m.p.Acts[e.Run.Act].Params[k])
	}
	return s + ");"
}

// written is a number, with its width ahead or not (0: there is none).
func (m maker) written(n api.Num, w int) string {
	digits := num.Text(n)
	if m.Intn(3) == 0 {
		digits = "0x" + hexOf(n)
	}
	if w > 0 && m.Intn(2) == 0 {
		return num.Text(one(uint64(w))) + "w" + digits
	}
	return digits
}

func hexOf(n api.Num) string { return big128(n).Text(16) }

// Texts by chance, with a few tokens changed: what is told is what is reckoned.
func TestP12_1AnyTexts(t *testing.T) {
	p := lowered(t, whole)
	m := newMaker(121, p)
	more, _ := sample.Tokens("s1 prio _1 t e m x fwd no put two 0 1 2 3 8 9 255 256 511 512 65536 65537 1w1 7w1 8w255 9w1 64w1 128w1 340282366920938463463374607431768211455 , , -> _ / &&& prio ( ) ; . :")
	more = append(more, sample.Strays()...)
	told := map[api.Errno]int{}
	for range 20000 {
		s := ""
		for range m.Intn(5) {
			s += m.entryText(pick(m, ends()...))
		}
		l, is := sample.Tokens(s)
		if !is {
			t.Fatalf("no tokens: %s", s)
		}
		for range pick(m, 0, 1, 1, 2, 3) {
			if len(l) == 0 {
				break
			}
			x := sample.Swap{At: m.Intn(len(l)), Lack: m.Intn(2)}
			if m.Intn(4) > 0 {
				x.More = append(x.More, more[m.Intn(len(more))])
			}
			l = x.In(l)
		}
		s, _ = sample.Spelt(l)
		told[wantReckoned(t, p, ends(), s)]++
	}
	for _, e := range []api.Errno{api.OK, api.ErrForm, api.ErrNone, api.ErrOver, api.ErrKind, api.ErrWidth, api.ErrShort} {
		if told[e] < 50 {
			t.Errorf("told are %v", told)
		}
	}
}

// Tokens in no order, and bytes of all kinds: each call ends with a fault at a place of the text, or with what may be.
func TestP1Soup(t *testing.T) {
	p := lowered(t, whole)
	m := newMaker(1, p)
	for range 20000 {
		s := sample.Soup(m.Intn)
		wantReckoned(t, p, ends(), s)
		if _, f := entries.Read(p, ends(), s); f.E != api.OK {
			if _, is := text.At(s, f.At); !is {
				t.Errorf("Read of %q: no place %v", s, f)
			}
		}
	}
}
