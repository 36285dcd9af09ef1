package types_test

import (
	"strings"
	"testing"

	"quillon/api"
	"quillon/sample"
	"quillon/types"
)

// onlyOne are changes that make the item behind the @ wrong by its widths, and no other one.
func onlyOne() []change {
	var l []change
	for _, part := range [][]change{wrongTransitions(), wrongCases(), wrongStatements(), wrongKeys(), wrongDefaults()} {
		l = append(l, part...)
	}
	return l
}

func wrongTransitions() []change {
	const two = "transition select(h.f, meta.m ++ (port + 1))"
	const four = "transition select(i.w, ~h.g, i.f[3:3], port)"
	return []change{
		{two, "@transition select(isValid(h), meta.m ++ (port + 1))", api.ErrKind},
		{two, "@transition select(h.f == 8, meta.m ++ (port + 1))", api.ErrKind},
		{two, "@transition select(!h.f, meta.m ++ (port + 1))", api.ErrKind},
		{two, "@transition select(7, meta.m ++ (port + 1))", api.ErrWidth},
		{two, "@transition select(~-7, meta.m ++ (port + 1))", api.ErrWidth},
		{two, "@transition select(1 == 2, meta.m ++ (port + 1))", api.ErrWidth},
		{two, "@transition select(h.f + 9w1, meta.m ++ (port + 1))", api.ErrWidth},
		{two, "@transition select(h.f + 256, meta.m ++ (port + 1))", api.ErrOver},
		{two, "@transition select(h.f[8:1], meta.m ++ (port + 1))", api.ErrOver},
		{two, "@transition select(h.f, isValid(i))", api.ErrKind},
		{two, "@transition select(h.f, 13)", api.ErrWidth},
		{two, "@transition select(h.f, meta.m ++ (port + 512))", api.ErrOver},
		{two, "@transition select(h.f, meta.m ++ i.w)", api.ErrOver},
		{two, "@transition select(h.f, meta.m ++ 9)", api.ErrWidth},
		{four, "@transition select(5, ~h.g, i.f[3:3], port)", api.ErrWidth},
		{four, "@transition select(i.w, ~isValid(h), i.f[3:3], port)", api.ErrKind},
		{four, "@transition select(i.w, ~h.g, i.f[16:16], port)", api.ErrOver},
		{four, "@transition select(i.w, ~h.g, i.f[3:3], isValid(i))", api.ErrKind},
		{four, "@transition select(i.w, ~h.g, i.f[3:3], 9)", api.ErrWidth},
		// The first key that is wrong.
		{two, "@transition select(isValid(h), 13)", api.ErrKind},
		{two, "@transition select(13, isValid(h))", api.ErrWidth},
		{two, "@transition select(h.f + 256, isValid(h))", api.ErrOver},
		{two, "@transition select(isValid(h), h.f + 256)", api.ErrKind},
		{two, "@transition select(13, h.f + 256)", api.ErrWidth},
	}
}

func wrongCases() []change {
	const first, mask, both, last = "1, _: t;", "_, 13w2 &&& 3: accept;", "8w255 &&& 15, 8191: t;", "0 &&& 8w0, 0 &&& 13w8191: accept;"
	const four = "340282366920938463463374607431768211455, 3w7, _, 511: u;"
	return []change{
		{first, "@256, _: t;", api.ErrOver},
		{first, "@9w1, _: t;", api.ErrWidth},
		{first, "@7w1, _: t;", api.ErrWidth},
		{first, "@_, 8192: t;", api.ErrOver},
		{first, "@_, 8w1: t;", api.ErrWidth},
		{mask, "@_, 12w2 &&& 3: accept;", api.ErrWidth},
		{mask, "@_, 8192 &&& 3: accept;", api.ErrOver},
		{mask, "@_, 2 &&& 14w3: accept;", api.ErrWidth},
		{mask, "@_, 13w2 &&& 8192: accept;", api.ErrOver},
		{both, "@8w255 &&& 256, 8191: t;", api.ErrOver},
		{both, "@8w255 &&& 9w15, 8191: t;", api.ErrWidth},
		{both, "@8w255 &&& 15, 8192: t;", api.ErrOver},
		{both, "@8w255 &&& 15, 8w1: t;", api.ErrWidth},
		{last, "@0 &&& 7w0, 0 &&& 13w8191: accept;", api.ErrWidth},
		{last, "@0 &&& 8w0, 0 &&& 14w8191: accept;", api.ErrWidth},
		{last, "@0 &&& 8w0, 0 &&& 8192: accept;", api.ErrOver},
		{four, "@128w5, 3w7, _, 512: u;", api.ErrOver},
		{four, "@128w5, 3w7, _, 13w1: u;", api.ErrWidth},
		{four, "@128w5, 8, _, 511: u;", api.ErrOver},
		{four, "@128w5, 13w7, _, 511: u;", api.ErrWidth},
		{four, "@128w5, 3w7, 2, 511: u;", api.ErrOver},
		{four, "@127w5, 3w7, _, 511: u;", api.ErrWidth},
		// The first number that is wrong.
		{mask, "@_, 8192 &&& 12w3: accept;", api.ErrOver},
		{mask, "@_, 12w3 &&& 8192: accept;", api.ErrWidth},
		{both, "@9w1 &&& 256, 8192: t;", api.ErrWidth},
		{both, "@255 &&& 256, 8w1: t;", api.ErrOver},
		{both, "@255 &&& 9w1, 8192: t;", api.ErrWidth},
		{first, "@256, 8w1: t;", api.ErrOver},
		{first, "@9w1, 8192: t;", api.ErrWidth},
	}
}

func wrongStatements() []change {
	return []change{
		{"forward(x + 1);", "@forward(x + 512);", api.ErrOver},
		{"forward(x + 1);", "@forward(x + y);", api.ErrWidth},
		{"forward(x + 1);", "@forward(1 + 1);", api.ErrWidth},
		{"forward(x + 1);", "@forward(1 << 1);", api.ErrWidth},
		{"forward(x + 1);", "@forward(x == 1);", api.ErrKind},
		{"forward(x + 1);", "@forward(!x);", api.ErrKind},
		{"forward(x + 1);", "@forward(512);", api.ErrOver},
		{"forward(x + 1);", "@forward(~512);", api.ErrOver},
		{"h.g = y[2:0];", "@h.g = y[3:0];", api.ErrWidth},
		{"h.g = y[2:0];", "@h.g = y[8:6];", api.ErrOver},
		{"h.g = y[2:0];", "@h.g = 2w3;", api.ErrWidth},
		{"h.g = y[2:0];", "@h.g = 8;", api.ErrOver},
		{"h.g = y[2:0];", "@h.g = -8;", api.ErrOver},
		{"h.g = y[2:0];", "@h.g = isValid(h);", api.ErrKind},
		{"h.g = y[2:0];", "@h.f = y[2:0];", api.ErrWidth},
		{"h.g = y[2:0];", "@meta.h = y[2:0];", api.ErrWidth},
		{"if (!isValid(i)) {", "@if (y) {", api.ErrKind},
		{"if (!isValid(i)) {", "@if (1) {", api.ErrKind},
		{"if (!isValid(i)) {", "@if (1w1) {", api.ErrKind},
		{"if (!isValid(i)) {", "@if (!y) {", api.ErrKind},
		{"if (!isValid(i)) {", "@if (isValid(i) == isValid(h)) {", api.ErrKind},
		{"if (!isValid(i)) {", "@if (y == 256) {", api.ErrOver},
		{"if (!isValid(i)) {", "@if (y == x) {", api.ErrWidth},
		{"if (!isValid(i)) {", "@if (y + x) {", api.ErrWidth},
		{"meta.h = x; drop;", "@meta.h = y; drop;", api.ErrWidth},
		{"meta.h = x; drop;", "meta.h = x; @forward(512);", api.ErrOver},
		{"if (y == 3 && 9 != x) {", "@if (y == 3 && 512 != x) {", api.ErrOver},
		{"if (y == 3 && 9 != x) {", "@if (y == 3 && x) {", api.ErrKind},
		{"h.f = y ^ 255;", "@h.f = y ^ 256;", api.ErrOver},
		{"h.f = y ^ 255;", "@h.f = x;", api.ErrWidth},
		{"meta.m = x ++ 3w1;", "@meta.m = x ++ 4w1;", api.ErrWidth},
		{"meta.m = x ++ 3w1;", "@meta.m = x ++ 1;", api.ErrWidth},
		{"meta.m = x ++ 3w1;", "@meta.m = x;", api.ErrWidth},
		{"meta.m = x ++ 3w1;", "@meta.h = x;", api.ErrWidth},
		{"forward(x); i.w = -~5;", "forward(x); @i.w = -~i.f;", api.ErrWidth},
		{"action c() { }", "action c() { @meta.o = 2; }", api.ErrOver},
		{"action c() { }", "action c() { drop; @meta.w = i.w; }", api.ErrWidth},
		{"if (h.g == 1 || meta.h >= 2) {", "@if (h.g == 1 || meta.h >= 512) {", api.ErrOver},
		{"if (h.g == 1 || meta.h >= 2) {", "@if (h.g == 8 || meta.h >= 2) {", api.ErrOver},
		{"if (h.g == 1 || meta.h >= 2) {", "@if (h.g == 1 || meta.h) {", api.ErrKind},
		{"if (h.g == 1 || meta.h >= 2) {", "@if (h.g || meta.h >= 512) {", api.ErrOver},
		{"if (h.g == 1 || meta.h >= 2) {", "@if (meta.h) {", api.ErrKind},
		{"apply a; valid h;", "apply a; @if (port) { } valid h;", api.ErrKind},
		{"i.f = i.f - 5;", "@i.f = i.f - 65536;", api.ErrOver},
		{"i.f = i.f - 5;", "@i.f = h.f - 5;", api.ErrWidth},
		{"i.f = i.f - 5;", "@i.f = i.w - 5;", api.ErrWidth},
		{"i.f = i.f - 5;", "@meta.f = i.f - 5;", api.ErrWidth},
		{"if (port < 4) {", "@if (port < 512) {", api.ErrOver},
		{"if (port < 4) {", "@if (port) {", api.ErrKind},
		{"if (port < 4) { }", "if (port < 4) { @h.f = port; }", api.ErrWidth},
		{"meta.o = i.w[127:127];", "@meta.o = i.w[127:126];", api.ErrWidth},
		{"meta.o = i.w[127:127];", "@meta.o = isValid(i);", api.ErrKind},
		{"forward(meta.w);", "@forward(isValid(i));", api.ErrKind},
		{"forward(meta.w);", "@forward(meta.w + meta.h);", api.ErrWidth},
		{"meta.h = 511;", "@meta.h = 512;", api.ErrOver},
		{"meta.h = 511;", "@meta.h = 10w1;", api.ErrWidth},
		{"meta.h = 511;", "@meta.h = port == 1;", api.ErrKind},
		{"meta.h = 511;", "meta.h = 511; @meta.h = 8w1;", api.ErrWidth},
	}
}

func wrongKeys() []change {
	return []change{
		{"h.x: exact;", "@isValid(h): exact;", api.ErrKind},
		{"h.x: exact;", "@h.x == 3: exact;", api.ErrKind},
		{"h.x: exact;", "@5: exact;", api.ErrWidth},
		{"h.x: exact;", "@~5: ternary;", api.ErrWidth},
		{"h.x: exact;", "@h.x - h.f: exact;", api.ErrWidth},
		{"h.x: exact;", "@h.x + 32: exact;", api.ErrOver},
		{"h.x: exact;", "@isValid(h): ternary;", api.ErrKind},
		{"~meta.m: ternary;", "@!meta.m: ternary;", api.ErrKind},
		{"~meta.m: ternary;", "@~5: exact;", api.ErrWidth},
		{"port >> 3: lpm;", "@isValid(i): lpm;", api.ErrKind},
		{"port >> 3: lpm;", "@3: lpm;", api.ErrWidth},
		{"port >> 3: lpm;", "@port + 512: lpm;", api.ErrOver},
		{"port >> 3: lpm;", "port >> 3: lpm; @port: lpm;", api.ErrTwice},
		{"h.x: exact; ~meta.m: ternary; port >> 3: lpm;", "h.x: lpm; ~meta.m: ternary; @port >> 3: lpm;", api.ErrTwice},
		{"h.x: exact; ~meta.m: ternary; port >> 3: lpm;", "h.x: lpm; @~meta.m: lpm; port >> 3: exact;", api.ErrTwice},
		{"h.x: exact; ~meta.m: ternary; port >> 3: lpm;", "h.x: lpm; port: exact; port: ternary; @h.x: lpm;", api.ErrTwice},
		{"h.x: exact; ~meta.m: ternary; port >> 3: lpm;", "h.x: exact; h.x: lpm; @h.x: lpm; h.x: lpm;", api.ErrTwice},
		{"port - 1: lpm;", "port - 1: lpm; @port: lpm;", api.ErrTwice},
		{"port - 1: lpm;", "@port - 512: lpm;", api.ErrOver},
		// Two things are wrong with it.
		{"port >> 3: lpm;", "port >> 3: lpm; @isValid(h): lpm;", api.ErrKind},
		{"port >> 3: lpm;", "port >> 3: lpm; @8: lpm;", api.ErrWidth},
		{"port >> 3: lpm;", "port >> 3: lpm; @port + 512: lpm;", api.ErrOver},
		{"~meta.m: ternary; port >> 3: lpm;", "@isValid(h): lpm; port >> 3: lpm;", api.ErrKind},
	}
}

func wrongDefaults() []change {
	return []change{
		{"default a(511, 2);", "@default a(512, 2);", api.ErrOver},
		{"default a(511, 2);", "@default a(8w1, 2);", api.ErrWidth},
		{"default a(511, 2);", "@default a(10w1, 2);", api.ErrWidth},
		{"default a(511, 2);", "@default a(511, 256);", api.ErrOver},
		{"default a(511, 2);", "@default a(511, 9w2);", api.ErrWidth},
		{"default a(511, 2);", "@default a(511, 7w2);", api.ErrWidth},
		{"default a(511, 2);", "@default b(2);", api.ErrOver},
		{"default a(511, 2);", "@default b(9w1);", api.ErrWidth},
		{"default b(1w1);", "@default b(2w1);", api.ErrWidth},
		{"default b(1w1);", "@default b(2);", api.ErrOver},
		// The first number that is wrong.
		{"default a(511, 2);", "@default a(512, 9w2);", api.ErrOver},
		{"default a(511, 2);", "@default a(8w1, 256);", api.ErrWidth},
	}
}

func TestP8_2CheckExamples(t *testing.T) {
	wantCheck(t, whole, api.OK)
	wantCheck(t, sample.LeastText, api.OK)
	if n, e := types.Check(sample.Least()); n != 2 || e != api.OK {
		t.Errorf("Check of the least program is %d, %d", n, e)
	}
	// Of the full one's first select the second key is of more than 128 bits.
	if n, e := types.Check(sample.Full()); n != 9 || e != api.ErrOver {
		t.Errorf("Check of the full program is %d, %d", n, e)
	}
}

func TestP8_2CheckEachItem(t *testing.T) {
	for _, c := range onlyOne() {
		wantCheck(t, changed(t, c), c.E)
	}
}

// Of two items that are wrong the first one is told.
func TestP8_2CheckTheFirstItem(t *testing.T) {
	pairs := 0
	for i, c := range onlyOne() {
		for _, d := range onlyOne()[i+1:] {
			if both, e, is := sample.Both(whole, sample.Change(c), sample.Change(d)); is {
				wantCheck(t, both, e)
				pairs++
			}
		}
	}
	if pairs < 7000 {
		t.Errorf("only %d pairs", pairs)
	}
}

// What layer 7 tells goes ahead of all, wherever that is.
func TestP8_2CheckNamesAhead(t *testing.T) {
	for _, last := range []change{
		{"emit(h);", "emit(h); @emit(h);", api.ErrTwice},
		{"emit(h);", "@emit(m);", api.ErrNone},
		{"drop;\n\tmeta.h", "drop;\n\t@apply b;\n\tmeta.h", api.ErrNone},
		{"deparser {", "deparser { @emit(j);", api.ErrNone},
	} {
		wantCheck(t, changed(t, last), last.E)
		for _, c := range onlyOne() {
			s, is := sample.Change(last).In(strings.Replace(changed(t, c), "@", "", 1))
			if !is {
				t.Fatalf("no place for %s behind %s", last.New, c.New)
			}
			wantCheck(t, s, last.E)
		}
	}
	for _, c := range []change{
		{"header i { bit<16> f;", "@header i { bit<17> f;", api.ErrWidth},
		{"header i {", "@header h {", api.ErrTwice},
		{"h.g = y[2:0];", "@h.g = isValid(h) + h.z;", api.ErrNone},
		{"h.g = y[2:0];", "@h.z = isValid(h);", api.ErrNone},
		{"1, _: t;", "@256, _: v;", api.ErrNone},
		{"transition select(h.f,", "@transition select(isValid(h) + x,", api.ErrNone},
		{"default a(511, 2);", "@default a(512);", api.ErrShort},
		{"default a(511, 2);", "@default a(8w1, 2, 3);", api.ErrOver},
		{"default b(1w1);", "@default a(1w1);", api.ErrNone},
		{"action c() { }", "action c() { @apply t; }", api.ErrKind},
	} {
		wantCheck(t, changed(t, c), c.E)
	}
}

// There is nothing wrong with these.
func TestP8_2CheckWhatMayBe(t *testing.T) {
	for _, c := range []change{
		// Bits of any width are forwarded; what is free fits a port.
		{"forward(x + 1);", "forward(y); forward(x ++ y); forward(h.g); forward(meta.o); forward(i.w); forward(1w1); forward(10w1023); forward(511); forward(~-511); forward(0);", api.OK},
		{"forward(meta.w);", "forward(meta.h); forward(9w511); forward(port - 511); forward(meta.h[0:0]);", api.OK},
		{"h.g = y[2:0];", "h.g = 7; h.g = ~-7; h.g = 3w7; h.g = y[7:5]; h.g = h.g << 9; meta.w = 170141183460469231731687303715884105727; meta.h = h.g ++ 6w1;", api.OK},
		{"if (!isValid(i)) {", "if (h.g <= 7 && (1 == meta.o || !(x > 511))) {", api.OK},
		// A parameter is its own action's: x has one bit there.
		{"meta.m = x ++ 3w1;", "meta.o = x; meta.f = x ++ x; if (x == 1) { meta.o = x - 1; }", api.OK},
		{"1, _: t;", "255, 8191: t; 8w1, 13w8191: t; _, _: t; 0, 0: t; 255 &&& 255, 13w1 &&& 13w1: t;", api.OK},
		{"1, _: t;", "", api.OK},
		{"transition select(h.f,", "transition select(8w7,", api.OK},
		{"transition select(h.f,", "transition select(h.f ^ 255,", api.OK},
		{"h.x: exact;", "8w5: exact;", api.OK},
		{"h.x: exact; ~meta.m: ternary; port >> 3: lpm;", "h.x: lpm; ~meta.m: ternary; port >> 3: exact; h.x: exact;", api.OK},
		{"h.x: exact; ~meta.m: ternary; port >> 3: lpm;", "port: ternary; port: ternary; port: exact; port: exact;", api.OK},
		{"h.x: exact; ~meta.m: ternary; port >> 3: lpm;", "port: exact; port: exact; port: exact; port: lpm;", api.OK},
		{"default a(511, 2);", "default a(9w511, 8w255);", api.OK},
		{"default a(511, 2);", "default a(0, 255);", api.OK},
		{"default a(511, 2);", "default b(1);", api.OK},
		{"default a(511, 2);", "default c();", api.OK},
		{"emit(i); emit(h);", "", api.OK},
	} {
		wantCheck(t, changed(t, c), c.E)
	}
}

// A case goes to the keys of its own state, behind whatever other one that stands.
func TestP8_2CheckCasesOfTheirState(t *testing.T) {
	const plain, wide, narrow = "state p { transition accept; } ", "state w { transition select(i.w, h.f) { 256, 255: accept; default: accept; } } ", "state n { transition select(h.f) { 255: accept; } } "
	const bad = "state b { transition select(h.f) { @256: accept; } } "
	for _, x := range []struct {
		states string
		e      api.Errno
	}{
		{narrow + wide, api.OK}, {wide + narrow, api.OK}, {plain + wide + narrow, api.OK}, {wide + plain + narrow, api.OK}, {narrow + plain + wide, api.OK},
		{wide + bad, api.ErrOver}, {narrow + bad + wide, api.ErrOver}, {wide + plain + bad, api.ErrOver}, {bad + wide, api.ErrOver},
	} {
		wantCheck(t, changed(t, change{"state u {", x.states + "state u {", x.e}), x.e)
	}
}

func TestP8_2CheckWhatMayNotBe(t *testing.T) {
	round := make([]api.Stmt, 1)
	round[0] = sample.If(valid("h"), round, nil)
	for i, change := range []func(p *api.Program){
		func(p *api.Program) { *p = api.Program{} },
		func(p *api.Program) { p.States = nil },
		func(p *api.Program) { p.Headers[0].Fields[0].W = 0 },
		func(p *api.Program) { p.Metas[0].W = 129 },
		func(p *api.Program) { p.States[0].Cases[0].Sets = nil },
		func(p *api.Program) { p.States[0].Keys = nil },
		func(p *api.Program) { p.States[0].Cases[0].Sets[1].V = api.Lit{W: 1} },
		func(p *api.Program) { p.Control[0].Kind = 99 },
		func(p *api.Program) { p.Control = round },
		func(p *api.Program) { p.Control[2].E = of(api.ExNot) },
		func(p *api.Program) { p.Tables[0].Keys[0].Kind = 0 },
		func(p *api.Program) { p.Tables[0].Default.Args[1] = lit(8, 256).Lit },
	} {
		p := wholeTree(t)
		change(&p)
		if n, e := types.Check(p); n != -1 || e != api.ErrArg {
			t.Errorf("change %d: Check is %d, %d", i, n, e)
		}
	}
}
