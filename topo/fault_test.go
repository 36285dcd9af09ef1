package topo_test

import (
	"slices"
	"strings"
	"testing"

	"quillon/api"
	"quillon/sample"
	"quillon/text"
	"quillon/topo"
)

func TestP13_1Form(t *testing.T) {
	wantFault(t, api.ErrForm,
		// What begins neither a switch nor a link.
		"@;", "@1", "@a { 1; }", "@{", "@}", "@Switch a { }", "@switches a { }", "@if", "@_", "@:", "switch a { }@;", "switch a { } @a { }", "switch a { 1; } @1", "switch a { }@}",
		// A switch.
		"switch@", "switch @;", "switch @{ 1; }", "switch @1 { }", "switch @_ { }", "switch @if { }", "switch @port { }", "switch @default { }", "switch @:a",
		"switch a@", "switch a @1;", "switch a@;", "switch a @b { }", "switch a@:1 { }", "switch a @( 1; )", "switch a@} ", "switch a @switch b { }",
		"switch a {@", "switch a {@;", "switch a {@{", "switch a { @a; }", "switch a { @_; }", "switch a { @-1; }", "switch a { @(1); }", "switch a { @, }", "switch a { @link a:1 a:2;", "switch a { @switch b { }",
		"switch a { 1@", "switch a { 1@}", "switch a { 1@, 2; }", "switch a { 1 @2; }", "switch a { 1@:2; }", "switch a { 1@.5; }", "switch a { 1 @x; }", "switch a { 1;@", "switch a { 1;@;", "switch a { 1; 2; @x", "switch a { 1; 2@}", "switch a { 1; }@}", "switch a { 1; }@;",
		// A link.
		smallText+"@;", "link@", "link @1:1", "link @:1", "link @;", "link @_:1", "link @if:1 a:1;", "link @table:1",
		"switch a { 1; 2; } link a@", "switch a { 1; 2; } link a @1;", "switch a { 1; 2; } link a@;", "switch a { 1; 2; } link a @a;", "switch a { 1; 2; } link a@.1 a:2;", "switch a { 1; 2; } link a@, a;", "switch a { 1; 2; } link a@= 1;",
		"switch a { 1; 2; } link a:@", "switch a { 1; 2; } link a:@a", "switch a { 1; 2; } link a:@;", "switch a { 1; 2; } link a:@:1", "switch a { 1; 2; } link a:@-1", "switch a { 1; 2; } link a:@_ a:2;",
		"switch a { 1; 2; } link a:1@", "switch a { 1; 2; } link a:1@;", "switch a { 1; 2; } link a:1@, a:2;", "switch a { 1; 2; } link a:1 @-> a:2;", "switch a { 1; 2; } link a:1 @2;", "switch a { 1; 2; } link a:1 @_:2;", "switch a { 1; 2; } link a:1 @if:2;",
		"switch a { 1; 2; } link a:1 a@", "switch a { 1; 2; } link a:1 a@;", "switch a { 1; 2; } link a:1 a @2;", "switch a { 1; 2; } link a:1 a:@", "switch a { 1; 2; } link a:1 a:@;", "switch a { 1; 2; } link a:1 a:@a;",
		"switch a { 1; 2; } link a:1 a:2@", "switch a { 1; 2; } link a:1 a:2 @link", "switch a { 1; 2; } link a:1 a:2@, a:1;", "switch a { 1; 2; } link a:1 a:2 @a:1;", "switch a { 1; 2; } link a:1 a:2@:1;", "switch a { 1; 2; } link a:1 a:2 @3;", "switch a { 1; 2; } link a:1 a:2 // ;\n@",
		// All switches stand ahead of all links.
		smallText+"@switch c { }", smallText+"@switch a { }", smallText+"@switch", smallText+"@a:1 b:1;", smallText+"@1", smallText+"@}",
	)
}

func TestP13_1TooManySwitches(t *testing.T) {
	eight := "switch a { } switch b { } switch c { 1; } switch d { } switch e { } switch f { } switch g { } switch h { 1; }"
	n, f := topo.Read(eight)
	if f != (api.Fault{}) || len(n.Switches) != 8 || len(n.Ports) != 8 {
		t.Fatal(n, f)
	}
	// At the switch, ahead of all that is wrong with it.
	wantFault(t, api.ErrOver, eight+"@switch i { }", eight+"\n @switch i { 1; }", eight+"@switch", eight+"@switch a { }", eight+"@switch 1", eight+"@switch i { } switch j { }", eight+"@switch if;", eight+"@switch i { 512; }")
	wantFault(t, api.ErrForm, eight+"@i { }", eight+"@;", eight+"link c:1 h:1; @switch i { }")
	wantFault(t, api.ErrTwice, strings.Replace(eight, "switch h", "switch @a", 1)+"switch i { }")
}

func TestP13_1TooManyPorts(t *testing.T) {
	const eight = "switch a { 1; 2; 3; 4; 5; 6; 7; 8; "
	n, f := topo.Read(eight + "}")
	if f != (api.Fault{}) || len(n.Ports) != 1 || len(n.Ports[0]) != 8 {
		t.Fatal(n, f)
	}
	// Ahead of all else that is wrong with it, and of what is behind.
	wantFault(t, api.ErrOver, eight+"@9; }", eight+"@1; }", eight+"@8; }", eight+"@8w9; }", eight+"@8w1; }", eight+"@0; }", eight+"@512; }", eight+"@128w340282366920938463463374607431768211455; }", eight+"@9 }", eight+"@9", eight+"\n@9; 10; }")
	// What is no number is no port that is one too many.
	wantFault(t, api.ErrForm, eight+"@a; }", eight+"@;", eight+"@", eight+"@_", eight+"@{", eight+"@-9;")
	// Each switch has its own.
	const b = "} switch b { 1; 2; 3; 4; 5; 6; 7; 8; "
	wantFault(t, api.ErrOver, eight+b+"@9; }", "switch a { 1; 2; 3; 4; 5; 6; 7; "+b+"@9; }")
	wantRead(t, eight+b+"}", api.Net{Switches: []string{"a", "b"}, Ports: [][]int{{1, 2, 3, 4, 5, 6, 7, 8}, {1, 2, 3, 4, 5, 6, 7, 8}}})
}

func TestP13_1NamesTwice(t *testing.T) {
	wantFault(t, api.ErrTwice,
		"switch a { } switch @a { }", "switch a { } switch b { } switch @a { }", "switch a { 1; } switch b { 1; } switch @b { 1; }", "switch a { } switch @a", "switch a { } switch @a;", "switch a { } switch @a { 512; }", "switch a { }\nswitch\n@a{}",
		"switch switch { } switch @switch { }", "switch link { } switch a { } switch @link { }", "switch abcdefghijklmnop { } switch @abcdefghijklmnop { }",
	)
	// Other names, by a byte.
	wantRead(t, "switch a{}switch A{}switch a1{}switch _a{}switch aa{}", api.Net{Switches: []string{"a", "A", "a1", "_a", "aa"}, Ports: make([][]int, 5)})
}

func TestP13_1Ports(t *testing.T) {
	wantFault(t, api.ErrWidth,
		"switch a { @8w1; }", "switch a { @9w511; }", "switch a { @1w1; }", "switch a { @128w1; }", "switch a { 1; @8w2; }", "switch a { 1; @8w1", "switch a { 1; } switch b { @9w1; }",
		// Ahead of a number that is too small, too great, or there.
		"switch a { @8w0; }", "switch a { @10w512; }", "switch a { 1; @8w1; }", "switch a { @128w340282366920938463463374607431768211455; }",
	)
	wantFault(t, api.ErrOver,
		"switch a { @0; }", "switch a { @512; }", "switch a { @513; }", "switch a { @0x200; }", "switch a { @000; }", "switch a { @0x0; }", "switch a { 1; @0; }", "switch a { 511; @512; }", "switch a { @4294967297; }",
		"switch a { @18446744073709551615; }", "switch a { @18446744073709551616; }", "switch a { @18446744073709551617; }", "switch a { @340282366920938463463374607431768211455; }", "switch a { @512", "switch a { @0 }", "switch a { } switch b { @512, }",
	)
	wantFault(t, api.ErrTwice,
		"switch a { 1; @1; }", "switch a { 1; 2; @1; }", "switch a { 2; 1; @2; }", "switch a { 511; @511; }", "switch a { 1; @0x1; }", "switch a { 1; @01; }", "switch a { 1; 2; 3; 4; 5; 6; 7; @7; }", "switch a { 1; @1", "switch a { 1; @1 }", "switch b { 1; } switch a { 1; 2; @2; }",
	)
	// A port of one switch is none of another one.
	wantRead(t, "switch a{1;}switch b{1;}", api.Net{Switches: []string{"a", "b"}, Ports: [][]int{{1}, {1}}})
}

// nodes are switches ahead of links.
const nodes = "switch a { 1; 2; 3; } switch b { 1; 511; } switch c { } "

func TestP13_1EndsThatAreNone(t *testing.T) {
	wantFault(t, api.ErrNone,
		nodes+"link @d:1 a:1;", nodes+"link @A:1 a:1;", nodes+"link @d", nodes+"link @d;", nodes+"link @d 1", nodes+"link @d:512", nodes+"link @link:1 a:1;", nodes+"link @switch:1 a:1;", nodes+"link a:1 @d:1;", nodes+"link a:1 @d", nodes+"link a:1 @a1:1;", nodes+"link a:1 @link a:2 a:3;",
		"link @a:1 a:2;", "link @link:1 b:2;", "link @switch",
		nodes+"link a:@4 b:1;", nodes+"link a:@511 b:1;", nodes+"link b:@2 a:1;", nodes+"link c:@1 a:1;", nodes+"link a:@4", nodes+"link a:@4;", nodes+"link a:@4 d:1;", nodes+"link a:1 b:@2;", nodes+"link a:1 b:@3", nodes+"link a:1 c:@511;", nodes+"link a:1 c:@1 x",
		nodes+"link a:1 b:1; link a:@4 b:511;", nodes+"link a:1 b:1; link @d:1 b:511;",
	)
	// Width and bounds go ahead.
	wantFault(t, api.ErrWidth, nodes+"link a:@8w1 b:1;", nodes+"link a:@8w4 b:1;", nodes+"link a:@10w512 b:1;", nodes+"link a:@8w0 b:1;", nodes+"link a:1 b:@9w511;", nodes+"link a:1 c:@9w511;", nodes+"link a:1 a:@1w1;", nodes+"link a:1 b:1; link a:@1w1 b:511;", nodes+"link c:@8w1")
	wantFault(t, api.ErrOver, nodes+"link a:@0 b:1;", nodes+"link a:@512 b:1;", nodes+"link c:@0 b:1;", nodes+"link c:@512 b:1;", nodes+"link a:1 b:@0;", nodes+"link a:1 b:@512;", nodes+"link a:@18446744073709551617 b:1;", nodes+"link a:1 b:@340282366920938463463374607431768211455;", nodes+"link a:@512", nodes+"link a:1 c:@0x200 x")
}

func TestP13_1EndsTwice(t *testing.T) {
	wantFault(t, api.ErrTwice,
		nodes+"link a:1 a:@1;", nodes+"link b:511 b:@511;", nodes+"link a:1 a:@1", nodes+"link a:1 a:@1 x", nodes+"link a:1 a:@0x1;",
		nodes+"link a:1 b:1; link a:@1 b:511;", nodes+"link a:1 b:1; link b:@1 a:2;", nodes+"link a:1 b:1; link a:2 a:@1;", nodes+"link a:1 b:1; link a:2 b:@1;", nodes+"link a:1 b:1; link a:@1 a:1;", nodes+"link a:1 b:1; link a:@1 b:1;", nodes+"link a:1 b:1; link b:@1 a:1;",
		nodes+"link a:1 b:1; link a:2 b:511; link a:3 a:@1;", nodes+"link a:1 b:1; link a:2 b:511; link b:@511 a:3;", nodes+"link a:1 b:1; link a:@1", nodes+"link a:1 b:1; link a:@1;", nodes+"link a:1 b:1; link a:@1 d:1;",
	)
	// A port of one number at two switches is two ends.
	wantRead(t, "switch a{1;}switch b{1;}link a:1 b:1;", api.Net{Switches: []string{"a", "b"}, Ports: [][]int{{1}, {1}}, Links: []api.Link{link(end(0, 1), end(1, 1))}})
}

// What layer 3 tells goes ahead of all, wherever it stands.
func TestP13_1Lex(t *testing.T) {
	wantFault(t, api.ErrForm, ") @$", "switch a { 512; } @12x", "switch a { } switch a { } @#", "link d:1 d:1; @\"a\"", "switch a { 1; @\x00 }")
	wantFault(t, api.ErrOver, "; @4w16", "switch a { 1; 1; @8w256; }", "link d:@340282366920938463463374607431768211456")
	wantFault(t, api.ErrWidth, "; ;\n @0w0", "switch a { @129w1; }", "link d:@0w1")
	wantFault(t, api.ErrLong, "; @abcdefghijklmnopq", "switch @abcdefghijklmnopq { }", "switch 1 { } link @abcdefghijklmnopq:1", "@;"+strings.Repeat(" ", api.MaxText), "@"+smallText+strings.Repeat("\n", api.MaxText))
}

// Of what is wrong at several places the one that is first, from left to right.
func TestP13_1Order(t *testing.T) {
	parts := []struct {
		fine, wrong string
		e           api.Errno
	}{
		{"switch", "link @:", api.ErrForm}, {"a", "@1", api.ErrForm}, {"{", "@;", api.ErrForm}, {"1", "@0", api.ErrOver}, {";", "@,", api.ErrForm}, {"2", "@8w2", api.ErrWidth}, {";", "@}", api.ErrForm}, {"3", "@512", api.ErrOver}, {";", "@3", api.ErrForm}, {"}", "@)", api.ErrForm},
		{"switch", "@;", api.ErrForm}, {"b", "@a", api.ErrTwice}, {"{", "@:", api.ErrForm}, {"2", "@x", api.ErrForm}, {";", "; @2 ;", api.ErrTwice}, {"}", "@;", api.ErrForm},
		{"link", "@a", api.ErrForm}, {"a", "@c", api.ErrNone}, {":", "@.", api.ErrForm}, {"1", "@9", api.ErrNone}, {"b", "@d", api.ErrNone}, {":", "@;", api.ErrForm}, {"2", "@0", api.ErrOver}, {";", "@,", api.ErrForm},
		{"link", "@switch", api.ErrForm}, {"a", "@_", api.ErrForm}, {":", "@1", api.ErrForm}, {"2", "@1", api.ErrTwice}, {"a", "@c", api.ErrNone}, {":", "@a", api.ErrForm}, {"3", "@2", api.ErrTwice}, {";", "@:", api.ErrForm},
	}
	textOf := func(wrong ...int) string {
		s := ""
		for i, x := range parts {
			switch at := slices.Index(wrong, i); {
			case at == 0:
				s += " " + x.wrong
			case at > 0:
				s += " " + strings.Replace(x.wrong, "@", "", 1)
			default:
				s += " " + x.fine
			}
		}
		return s
	}
	wantRead(t, textOf(), api.Net{Switches: []string{"a", "b"}, Ports: [][]int{{1, 2, 3}, {2}}, Links: []api.Link{link(end(0, 1), end(1, 2)), link(end(0, 2), end(0, 3))}})
	for i, x := range parts {
		wantFault(t, x.e, textOf(i), textOf(i)+" link b:2 a:1;", textOf(i)+";")
		for j := i + 1; j < len(parts); j++ {
			wantFault(t, x.e, textOf(i, j))
		}
	}
}

func wantReckoned(t *testing.T, s string) api.Errno {
	t.Helper()
	got, f := topo.Read(s)
	want, wantFault := reckonedRead(s)
	if f != wantFault || !same(got, want) {
		t.Errorf("Read of %.1000q is %v, %v, want %v, %v", s, got, f, want, wantFault)
	}
	if f.E == api.OK && !topo.May(got) {
		t.Errorf("what Read tells of %.1000q may not be: %v", s, got)
	}
	if f.E != api.OK && !isNothing(got) {
		t.Errorf("beside %v of %.1000q is told %v", f, s, got)
	}
	return f.E
}

func wantAll(t *testing.T, told map[api.Errno]int, least int) {
	t.Helper()
	for _, e := range []api.Errno{api.OK, api.ErrForm, api.ErrOver, api.ErrTwice, api.ErrWidth, api.ErrNone} {
		if told[e] < least {
			t.Errorf("told are %v", told)
		}
	}
}

// Each token of a text lacks, or another one stands there or ahead of it: what is told is what is reckoned.
func TestP13_1EachToken(t *testing.T) {
	more, _ := sample.Tokens("switch link a b c x 1 2 3 7 8 9 510 511 512 1w0 1w1 8w1 9w511 18446744073709551617 340282366920938463463374607431768211455")
	more = append(more, sample.Strays()...)
	told := map[api.Errno]int{}
	for _, s := range []string{smallText, wideText, "switch a{1;}switch b{2;}switch c{}switch d{}switch e{}switch f{}switch g{}switch h{1;2;3;4;5;6;7;8;}link h:8 a:1;"} {
		l, _ := sample.Tokens(s)
		sample.EachSwap(l, more, func(x sample.Swap) {
			text, _ := sample.Spelt(x.In(l))
			told[wantReckoned(t, text)]++
		})
	}
	wantAll(t, told, 5)
}

// Texts by chance, with a few tokens changed: what is told is what is reckoned.
func TestP13_1AnyTexts(t *testing.T) {
	m := newMaker(131)
	more, _ := sample.Tokens("switch link a b s1 _1 prio abcdefghijklmnop 1 2 3 255 256 510 511 512 8w1 9w511 0 { } : : ; ; ,")
	more = append(more, sample.Strays()...)
	told := map[api.Errno]int{}
	for range 20000 {
		l, is := sample.Tokens(m.text(m.net()))
		if !is {
			t.Fatal("no tokens")
		}
		for range m.pick(0, 1, 1, 2, 3) {
			if len(l) == 0 {
				break
			}
			x := sample.Swap{At: m.Intn(len(l)), Lack: m.Intn(2)}
			switch m.Intn(4) {
			case 0:
			case 1:
				x.More = append(x.More, l[m.Intn(len(l))])
			default:
				x.More = append(x.More, more[m.Intn(len(more))])
			}
			l = x.In(l)
		}
		s, _ := sample.Spelt(l)
		told[wantReckoned(t, s)]++
	}
	wantAll(t, told, 50)
}

// Tokens in no order, and bytes of all kinds: each call ends with a fault at a place of the text, or with what may be.
func TestP1Soup(t *testing.T) {
	m := newMaker(1)
	words, _ := sample.Tokens("switch switch switch link link a a b { { } : : ; ; ; 1 2 512 8w1")
	for range 20000 {
		s := sample.Soup(m.Intn)
		if m.Intn(2) == 0 {
			var l []api.Token
			for range m.Intn(20) {
				l = append(l, words[m.Intn(len(words))])
			}
			s, _ = sample.Spelt(l)
		}
		if wantReckoned(t, s) == api.OK {
			continue
		}
		if _, f := topo.Read(s); f.E != api.OK {
			if _, is := text.At(s, f.At); !is {
				t.Errorf("Read of %q: no place %v", s, f)
			}
		}
	}
}
