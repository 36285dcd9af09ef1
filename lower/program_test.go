package lower_test

import (
	"math"
	"reflect"
	"strconv"
	"strings"
	"testing"

	"quillon/api"
	"quillon/graph"
	"quillon/lower"
	"quillon/num"
	"quillon/print"
	"quillon/sample"
	"quillon/types"
)

const typedLowered = `header 8 3 5
header 16 128
metas 4 9 1 127 2
step take 0 [field8] [meta4 port9 const9=1 add9 cat13] case 1&255 0&0 >1 case 0&0 2&3 >-1 case 15&15 8191&8191 >1 case 0&0 0&0 >-2 case 0&0 0&8191 >-1 >0
step take 1 [field128(1,1)] [field3(0,1) not3] [field16(1,0) slice1(3,3)] [port9] case 340282366920938463463374607431768211455&340282366920938463463374607431768211455 7&7 0&0 511&511 >2 case 0&0 7&7 1&1 0&0 >2 >0
step take >-1
act 9 8: forward[param9 const9=1 add9]; set(0,1)[param8(1,0) slice3(2,0)]; if[valid1(1,0) not1]>6; meta(1,0)[param9]; drop; jump>10; valid(1,0); if[param8(1,0) const8=3 eq1]>10; if[const9=9 param9 eq1 not1]>10; set[param8(1,0) const8=255 xor8]
act 1: meta[param1 const3=1 cat4]; forward[const8 param1 cat9]; set(1,1)[const128=5 not128 neg128]
act:
tab [field5(0,2)] [meta4 not4] [port9 shr9(3,0)] kinds 1 3 2 acts 0 1 2 run 0 511 2
tab [port9 const9=1 sub9] kinds 2 acts 2 1 run 1 1
control apply; if[field3(0,1) const3=1 eq1 not1]>3; if[meta9(1,0) const9=2 lt1 not1]>6; apply(1,0); valid(0,1); jump>10; set(1,0)[field16(1,0) const16=5 sub16]; if[port9 const9=4 lt1]>9; jump>10; meta(2,0)[field128(1,1) slice1(127,127)]; forward[meta127(3,0) slice9(8,0)]; drop; meta(1,0)[const9=511]
emit 1 0
headers h i
fields f g x
fields f w
metas m h o w f
actions a b c
tables t a`

func TestP10_1Whole(t *testing.T) {
	p := typed(t)
	if got := toldProg(lowered(t, p)); got != typedLowered {
		t.Errorf("got\n%s\nwant\n%s", got, typedLowered)
	}
	if !reflect.DeepEqual(p, typed(t)) {
		t.Error("what was handed in is changed")
	}
	// Its print means the same.
	if got := toldProg(lowered(t, read(t, print.Program(p)))); got != typedLowered {
		t.Errorf("of its print\n%s", got)
	}
}

func TestP10_1Least(t *testing.T) {
	for _, to := range []struct {
		name string
		n    int
	}{{"accept", -1}, {"reject", -2}} {
		p := sample.Least()
		p.States[0].To = to.name
		want := api.Prog{Steps: []api.Step{{To: to.n}}}
		if got, e := lower.Program(p); e != api.OK || !reflect.DeepEqual(got, want) || !lower.May(got) {
			t.Errorf("%+v, %d", got, e)
		}
	}
}

// wantStates wants that states' text is lowered to these steps.
func wantStates(t *testing.T, states string, want ...string) {
	t.Helper()
	p := typed(t)
	q := read(t, "metadata { } parser { "+states+" } control { } deparser { }")
	p.States = q.States
	var got []string
	for _, s := range lowered(t, p).Steps {
		got = append(got, toldStep(s))
	}
	if !reflect.DeepEqual(got, want) {
		t.Errorf("of %s\n%s\nwant\n%s", states, strings.Join(got, "\n"), strings.Join(want, "\n"))
	}
}

func TestP10_1States(t *testing.T) {
	wantStates(t, "state a { transition b; } state b { transition reject; }", "take >1", "take >-2")
	wantStates(t, "state b { extract(i); extract(h); extract(i); transition accept; } state a { transition b; }", "take 1 0 1 >-1", "take >0")
	// Those that are not reached are there, too, and states may be met again.
	wantStates(t, "state a { transition c; } state b { transition c; } state c { transition select(port) { 1: d; default: d; } } state d { transition accept; }",
		"take >2", "take >2", "take [port9] case 1&511 >3 case 0&0 >3 >0", "take >-1")
	wantStates(t, "state a { transition select(h.f, port, meta.o, h.g ++ h.x) { _, _, _, _: accept; 1, 2, 1w1, 4: reject; default: accept; } }",
		"take [field8] [port9] [meta1(2,0)] [field3(0,1) field5(0,2) cat8] case 0&0 0&0 0&0 0&0 >-1 case 1&255 2&511 1&1 4&255 >-2 case 0&0 0&0 0&0 0&0 >-1 >0")
	wantStates(t, "state a { transition select(h.f) { 0: accept; 255: accept; 8w255: accept; 0 &&& 0: accept; 255 &&& 0: accept; 255 &&& 170: accept; 85 &&& 170: accept; 8w170 &&& 8w170: accept; 0 &&& 255: accept; } }",
		"take [field8] case 0&255 >-1 case 255&255 >-1 case 255&255 >-1 case 0&0 >-1 case 0&0 >-1 case 170&170 >-1 case 0&170 >-1 case 170&170 >-1 case 0&255 >-1 >0")
}

// A set of one number has a mask of all the key's bits, of each width.
func TestP10_1MasksOfAllWidths(t *testing.T) {
	for w := 1; w <= 128; w++ {
		p := typed(t)
		p.States = []api.State{{Name: "s", Keys: []api.Expr{sample.Lit(w, 0)}, Cases: []api.Case{
			{Sets: []api.Set{{Kind: api.SetOne, V: api.Lit{N: num.Mask(w)}}}, To: "accept"},
			{Sets: []api.Set{{Kind: api.SetMask, V: api.Lit{W: w, N: num.Mask(w)}, M: api.Lit{N: num.Shl(num.Of(1), w-1, 128)}}}, To: "accept"},
		}}}
		top := num.Shl(num.Of(1), w-1, 128)
		want := []api.Branch{{Pats: []api.Pat{{V: num.Mask(w), M: num.Mask(w)}}, To: -1}, {Pats: []api.Pat{{V: top, M: top}}, To: -1}}
		if got := lowered(t, p).Steps[0].Branches; !reflect.DeepEqual(got, want) {
			t.Errorf("of %d bits %v", w, got)
		}
	}
}

// All that layers 8 and 9 refuse is ErrArg, and nothing else is.
func TestP10_1Errors(t *testing.T) {
	for _, c := range []struct{ Old, New string }{
		// What there is not, is there already, or has a width that may not be.
		{"header i { bit<16> f;", "header i { bit<17> f;"}, {"header i {", "header h {"}, {"bit<9> h;", "bit<9> m;"}, {"extract(i);", "extract(j);"}, {"transition accept;", "transition v;"},
		{"h.g = y[2:0];", "h.z = y[2:0];"}, {"h.g = y[2:0];", "apply t;"}, {"apply a; valid h;", "apply b; valid h;"}, {"valid h;", "valid x;"}, {"emit(h);", "emit(h); emit(h);"}, {"emit(h);", "emit(j);"},
		{"default a(511, 2);", "default a(511);"}, {"default a(511, 2);", "default d();"}, {"actions { c; b; }", "actions { c; b; c; }"}, {"forward(x + 1);", "forward(z + 1);"},
		// Widths and kinds.
		{"forward(x + 1);", "forward(x + 512);"}, {"forward(x + 1);", "forward(isValid(h));"}, {"h.g = y[2:0];", "h.g = y;"}, {"if (port < 4) { }", "if (port) { }"}, {"default b(1w1);", "default b(2);"},
		{"8w255 &&& 15, 8191: t;", "8w255 &&& 15, 8192: t;"}, {"port >> 3: lpm;", "port >> 3: lpm; port: lpm;"}, {"h.x: exact;", "5: exact;"}, {"transition select(h.f,", "transition select(isValid(h),"},
		// Cycles.
		{"transition accept;", "transition u;"}, {"transition accept;", "transition s;"}, {"_, 7 &&& 7, 1w1, 9w5 &&& 0: u;", "_, 7 &&& 7, 1w1, 9w5 &&& 0: t;"}, {"state u { transition accept; }", "state u { transition accept; } state v { transition v; }"},
		{"default: reject;", "default: s;"},
	} {
		s, is := sample.Change{Old: c.Old, New: c.New}.In(sample.Typed)
		if !is {
			t.Fatalf("%q is not there once", c.Old)
		}
		wantErrArg(t, read(t, s))
	}
	for i, change := range []func(p *api.Program){
		func(p *api.Program) { *p = api.Program{} },
		func(p *api.Program) { p.States = nil },
		func(p *api.Program) { p.Headers[0].Fields[0].W = 0 },
		func(p *api.Program) { p.Metas[0].W = math.MinInt },
		func(p *api.Program) { p.States[0].Cases[0].Sets = nil },
		func(p *api.Program) { p.States[0].To = "u" },
		func(p *api.Program) { p.Control[0].Kind = 99 },
		func(p *api.Program) { p.Control[1].Then = p.Control },
		func(p *api.Program) { p.Control[2].E = api.Expr{Op: api.ExNot} },
		func(p *api.Program) { p.Tables[0].Keys[0].Kind = 0 },
		func(p *api.Program) { p.Emit[0] = "" },
	} {
		p := typed(t)
		change(&p)
		if _, e := types.Check(p); e == api.OK {
			t.Errorf("change %d leaves nothing wrong", i)
		}
		wantErrArg(t, p)
	}
	wantErrArg(t, sample.Full())
}

func wantErrArg(t *testing.T, p api.Program) {
	t.Helper()
	_, wrong := types.Check(p)
	if wrong == api.OK {
		_, wrong = graph.Check(p)
	}
	if got, e := lower.Program(p); !reflect.DeepEqual(got, api.Prog{}) || e != api.ErrArg || wrong == api.OK {
		t.Errorf("%d, with %d, of\n%s", e, wrong, print.Program(p))
	}
}

// Each list is as long as may be.
func TestP10_1Full(t *testing.T) {
	l := lowered(t, read(t, fullest()))
	if len(l.Heads) != 8 || len(l.Heads[7]) != 16 || len(l.Metas) != 16 || len(l.Steps) != 16 || len(l.Steps[3].Takes) != 8 || len(l.Steps[3].Keys) != 4 || len(l.Steps[3].Branches) != 16 ||
		len(l.Acts) != 16 || len(l.Acts[15].Params) != 8 || len(l.Acts[15].Body) != 32 || len(l.Tabs) != 8 || len(l.Tabs[7].Keys) != 4 || len(l.Tabs[7].Acts) != 16 || len(l.Control) != 32 || len(l.Emit) != 8 {
		t.Error(toldProg(l))
	}
	for n, s := range l.Steps[:15] {
		if s.Branches[15].To != n+1 || s.Takes[n%8] != 7-n%8 {
			t.Error(n, toldStep(s))
		}
	}
	if got := toldTab(l.Tabs[7]); got != "[field1(7,15)] [meta8(15,0)] [port9] [port9] kinds 2 1 3 3 acts 0 1 2 3 4 5 6 7 8 9 10 11 12 13 14 15 run 15 8 9 10 11 12 13 14 15" {
		t.Error(got)
	}
	if got := toldInsts(l.Acts[15].Body[31:]); got != "meta(7,0)[param8(7,0)]" {
		t.Error(got)
	}
}

// rows are a row again and again, with the numbers from 0 on, below n, in place of its #.
func rows(n int, s string) string {
	var b strings.Builder
	for i := range n {
		b.WriteString(strings.ReplaceAll(s, "#", strconv.Itoa(i)))
	}
	return b.String()
}

// fullest is a text of a program with nothing wrong, all of whose lists are as long as may be.
func fullest() string {
	fields, takes := rows(16, "bit<1> f#; "), "extract(h7); extract(h6); extract(h5); extract(h4); extract(h3); extract(h2); extract(h1); extract(h0); "
	params, listed := strings.TrimSuffix(rows(8, "bit<8> p#, "), ", "), rows(16, "a#; ")
	s := rows(8, "header h# { "+fields+"} ") + "metadata { " + rows(16, "bit<8> m#; ") + "} parser { "
	for n := range 15 {
		s += "state s" + strconv.Itoa(n) + " { " + takes + "transition select(port, meta.m0, h0.f0, 8w7) { " + strings.Repeat("_, 1, _, 7: reject; ", 15) + "default: s" + strconv.Itoa(n+1) + "; } } "
	}
	s += "state s15 { transition accept; } } " + rows(16, "action a#("+params+") { "+strings.Repeat("meta.m7 = p7; ", 32)+"} ")
	s += rows(8, "table t# { key { h7.f15: lpm; meta.m15: exact; port: ternary; port: ternary; } actions { "+listed+"} default a15(8, 9, 10, 11, 12, 13, 14, 15); } ")
	return s + "control { " + strings.Repeat("apply t7; ", 32) + "} deparser { " + rows(8, "emit(h#); ") + "}"
}

// All that is told has memory of its own.
func TestP10_1IsNew(t *testing.T) {
	for _, s := range []string{sample.Typed, fullest()} {
		p := read(t, s)
		wantApart(t, p, lowered(t, p))
	}
	p := typed(t)
	e := expr(t, "port + 1 == 2 && isValid(h)")
	c, _ := lower.Pred(p, e)
	wantApart(t, p, e, c)
}

// A span is where a list's memory begins and ends.
type span struct{ from, to uintptr }

// wantApart wants that no two lists in some things have memory in common.
func wantApart(t *testing.T, things ...any) {
	t.Helper()
	var spans []span
	var gather func(v reflect.Value)
	gather = func(v reflect.Value) {
		switch v.Kind() {
		case reflect.Struct:
			for i := range v.NumField() {
				gather(v.Field(i))
			}
		case reflect.Slice:
			if v.Cap() > 0 {
				from := v.Pointer()
				spans = append(spans, span{from, from + uintptr(v.Cap())*v.Type().Elem().Size()})
			}
			for i := range v.Len() {
				gather(v.Index(i))
			}
		}
	}
	for _, x := range things {
		gather(reflect.ValueOf(x))
	}
	for i, a := range spans {
		for _, b := range spans[:i] {
			if a.from < b.to && b.from < a.to {
				t.Errorf("two lists of %d share memory", len(spans))
				return
			}
		}
	}
}
