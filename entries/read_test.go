package entries_test

import (
	"reflect"
	"slices"
	"strconv"
	"strings"
	"testing"

	"quillon/api"
	"quillon/entries"
	"quillon/lower"
	"quillon/num"
)

func TestP12_1Examples(t *testing.T) {
	p := lowered(t, `
		header h { bit<8> f; } metadata { }
		parser { state s { extract(h); transition accept; } }
		action fwd(bit<9> to) { forward(to); }
		table t { key { h.f: lpm; } actions { fwd; } default fwd(1); }
		control { apply t; } deparser { emit(h); }`)
	wantRead(t, p, []string{"s1"}, "s1.t: 192/4 -> fwd(2);", []api.Entry{{Pats: pats(of(192, 240)), Len: 4, Run: api.Run{Args: args(2)}}})
	wantFaultAt(t, p, []string{"s1"}, "s1.t: 192 -> fwd(2);", 6, api.ErrKind)
}

// entryOf is what is read of one entry's text for the first switch.
func entryOf(t *testing.T, p api.Prog, s string) api.Entry {
	t.Helper()
	l, f := entries.Read(p, ends(), s)
	if f != (api.Fault{}) || len(l) != 3 || len(l[0]) != 1 || len(l[1])+len(l[2]) > 0 {
		t.Fatalf("Read of %q is %v, %v", s, l, f)
	}
	return l[0][0]
}

func TestP12_1Patterns(t *testing.T) {
	p := lowered(t, whole)
	for _, c := range []struct {
		tab, pat string
		want     api.Pat
		length   int
	}{
		{"e", "0", of(0, 255), 0}, {"e", "5", of(5, 255), 0}, {"e", "255", of(255, 255), 0}, {"e", "8w5", of(5, 255), 0}, {"e", "0xfF", of(255, 255), 0}, {"e", "8w0x0f", of(15, 255), 0},
		{"t", "_", of(0, 0), 0}, {"t", "0/0", of(0, 0), 0}, {"t", "255/0", of(0, 0), 0}, {"t", "255/1", of(128, 128), 1}, {"t", "127/1", of(0, 128), 1},
		{"t", "192/4", of(192, 240), 4}, {"t", "255/4", of(240, 240), 4}, {"t", "255/7", of(254, 254), 7}, {"t", "5/8", of(5, 255), 8}, {"t", "8w5/8", of(5, 255), 8}, {"t", "8w0xF5 / 0x4", of(240, 240), 4}, {"t", "1/00", of(0, 0), 0},
		{"m", "_", of(0, 0), 0}, {"m", "5", of(5, 255), 0}, {"m", "8w255", of(255, 255), 0}, {"m", "0", of(0, 255), 0},
		{"m", "5 &&& 6", of(4, 6), 0}, {"m", "255&&&0", of(0, 0), 0}, {"m", "0 &&& 255", of(0, 255), 0}, {"m", "8w5 &&& 8w7", of(5, 7), 0}, {"m", "5 &&& 8w7", of(5, 7), 0}, {"m", "8w255 &&& 128", of(128, 128), 0}, {"m", "240 &&& 240", of(240, 240), 0},
	} {
		e := entryOf(t, p, "s1."+c.tab+": "+c.pat+" -> no();")
		want := api.Entry{Tab: slices.Index(p.Names.Tables, c.tab), Pats: pats(c.want), Len: c.length, Run: api.Run{Act: actNo}}
		if !entries.Same([]api.Entry{e}, []api.Entry{want}) {
			t.Errorf("%s of %s is %v, want %v", c.pat, c.tab, e, want)
		}
	}
}

// of each width: a program of three tables with one key each, of each kind.
func widthProg(t *testing.T, w int) api.Prog {
	t.Helper()
	bits := "bit<" + strconv.Itoa(w) + ">"
	return lowered(t, `metadata { `+bits+` k; } parser { state s { transition accept; } }
		action no() { } action put(`+bits+` x) { meta.k = x; }
		table e { key { meta.k: exact; } actions { no; put; } default no(); }
		table t { key { meta.k: lpm; } actions { no; put; } default no(); }
		table m { key { meta.k: ternary; } actions { no; put; } default no(); }
		control { } deparser { }`)
}

func TestP12_1EachWidth(t *testing.T) {
	for w := 1; w <= 128; w++ {
		p := widthProg(t, w)
		most, over := num.Mask(w), num.Text(num.Add(num.Mask(w), one(1), 128))
		d, width := num.Text(most), strconv.Itoa(w)
		for _, s := range []string{d, width + "w" + d} {
			if e := entryOf(t, p, "s1.e: "+s+" -> put("+s+");"); e.Pats[0] != (api.Pat{V: most, M: most}) || e.Run.Args[0] != most {
				t.Errorf("%s is read as %v", s, e)
			}
			if e := entryOf(t, p, "s1.m: "+s+" &&& "+s+" -> no();"); e.Pats[0] != (api.Pat{V: most, M: most}) {
				t.Errorf("%s is read as %v", s, e)
			}
			for length := 0; length <= w; length++ {
				m := top(length, w)
				if e := entryOf(t, p, "s1.t: "+s+"/"+strconv.Itoa(length)+" -> no();"); e.Pats[0] != (api.Pat{V: m, M: m}) || e.Len != length {
					t.Errorf("%s/%d is read as %v", s, length, e)
				}
			}
		}
		wantFault(t, p, api.ErrOver, "s1.t: "+d+"/@"+strconv.Itoa(w+1)+" -> no();")
		if w < 128 {
			wantFault(t, p, api.ErrOver, "s1.e: @"+over+" -> no();", "s1.t: @"+over+"/0 -> no();", "s1.m: @"+over+" -> no();", "s1.m: 0 &&& @"+over+" -> no();", "s1.m: @"+over+" &&& 0 -> no();", "s1.e: 0 -> put(@"+over+");")
			more := strconv.Itoa(w + 1)
			wantFault(t, p, api.ErrWidth, "s1.e: @"+more+"w0 -> no();", "s1.t: @"+more+"w0/0 -> no();", "s1.m: @"+more+"w0 -> no();", "s1.m: 0 &&& @"+more+"w0 -> no();", "s1.e: 0 -> put(@"+more+"w0);")
		}
		if w > 1 {
			less := strconv.Itoa(w - 1)
			wantFault(t, p, api.ErrWidth, "s1.e: @"+less+"w0 -> no();", "s1.t: @"+less+"w0/0 -> no();", "s1.m: @"+less+"w0 &&& 0 -> no();", "s1.m: 0 &&& @"+less+"w0 -> no();", "s1.e: 0 -> put(@"+less+"w0);")
		}
	}
}

func TestP12_1PartsOfEntries(t *testing.T) {
	p := lowered(t, whole)
	wantRead(t, p, ends(), "s1.t: 192/2 prio 3 -> fwd(511);", []api.Entry{routed(192, 2, 3, 511)}, nil, nil)
	wantRead(t, p, ends(), "s1.t: 192/2 -> fwd(511);", []api.Entry{routed(192, 2, 0, 511)}, nil, nil)
	wantRead(t, p, ends(), "s1.t: 192/2 prio 0 -> fwd(9w1);", []api.Entry{routed(192, 2, 0, 1)}, nil, nil)
	wantRead(t, p, ends(), "s1.t: 192/2 prio 65536 -> fwd(0);", []api.Entry{routed(192, 2, 65536, 0)}, nil, nil)
	wantRead(t, p, ends(), "s1.t: 192/2 prio 0x10 -> fwd(0x10);", []api.Entry{routed(192, 2, 16, 16)}, nil, nil)
	// Each switch's entries in their order, whatever stands between.
	wantRead(t, p, ends(), "_1.t: 0/1 -> fwd(1); s1.t: 0/2 -> fwd(2); _1.t: 0/3 -> fwd(3); s1.t: 0/4 -> fwd(4); _1.t: 0/5 -> fwd(5);",
		[]api.Entry{routed(0, 2, 0, 2), routed(0, 4, 0, 4)}, nil, []api.Entry{routed(0, 1, 0, 1), routed(0, 3, 0, 3), routed(0, 5, 0, 5)})
	// The same entry twice.
	wantRead(t, p, ends(), "s1.t:0/1->fwd(1);s1.t:0/1->fwd(1);", []api.Entry{routed(0, 1, 0, 1), routed(0, 1, 0, 1)}, nil, nil)
	// All parts, with told widths, and what may stand between tokens.
	wantRead(t, p, ends(), "// all\n\ts1 . prio\n:\t1w1, // one\n 0x20000000000000000 &&& 128w55340232221128654849 , 9w0x1bf / 3,_ prio\n77->put ( 8w255,1, 0xffffffffffffffffffffffffffffffff ) ; // end",
		[]api.Entry{full()}, nil, nil)
	// prio is a name as all others.
	named := full()
	named.Run = api.Run{Act: actPrio, Args: args(5)}
	wantRead(t, p, ends(), "prio.prio: 1, 36893488147419103232 &&& 55340232221128654849, 384/3, _ prio 77 -> prio(5);", nil, []api.Entry{named}, nil)
	named.Prio = 0
	wantRead(t, p, ends(), "prio.prio: 1, 36893488147419103232 &&& 55340232221128654849, 384/3, 7w0 &&& 7w0 -> prio(64w5);", nil, []api.Entry{named}, nil)
}

// An entry's Len is that of its prefix, whichever key asks for one.
func TestP12_1Len(t *testing.T) {
	p := lowered(t, whole)
	for length := range 10 {
		if e := entryOf(t, p, "s1.prio: 0, _, 511/"+strconv.Itoa(length)+", _ -> no();"); e.Len != length {
			t.Errorf("Len is %d, want %d", e.Len, length)
		}
	}
	for _, s := range []string{"s1.prio: 0, 128w3 &&& 3, _, 127 -> no();", "s1.e: 255 -> no();", "s1.m: 255 -> no();", "s1.m: 240 &&& 240 -> no();", "s1.x: _, 1 -> no();"} {
		if e := entryOf(t, p, s); e.Len != 0 {
			t.Errorf("Len of %s is %d", s, e.Len)
		}
	}
}

func TestP12_1NoEntries(t *testing.T) {
	p := lowered(t, whole)
	for _, s := range []string{"", " ", "\n\n", "// s1.t: _ -> no();", "//", "\t// x\n"} {
		wantRead(t, p, nil, s)
		wantRead(t, p, []string{}, s)
		wantRead(t, p, ends(), s, nil, nil, nil)
	}
	if l, f := entries.Read(p, nil, ""); f != (api.Fault{}) || len(l) != 0 {
		t.Error(l, f)
	}
}

func TestP12_1Switches(t *testing.T) {
	p := lowered(t, whole)
	eight := []string{"a", "b", "c", "d", "e", "f", "g", "abcdefghijklmnop"}
	want := make([][]api.Entry, 8)
	for n := range eight {
		want[n] = []api.Entry{routed(0, 1, 0, uint64(n))}
	}
	var b strings.Builder
	for n, name := range slices.Backward(eight) {
		b.WriteString(name + ".t: 0/1 -> fwd(" + strconv.Itoa(n) + ");\n")
	}
	wantRead(t, p, eight, b.String(), want...)
	// Of switches of one name the first one; what is no name is none that a text can call.
	odd := []string{"", "if", "t u", "a", "a", "s.t"}
	wantRead(t, p, odd, "a.t: 0/1 -> fwd(5);", nil, nil, nil, []api.Entry{routed(0, 1, 0, 5)}, nil, nil)
	wantFaultAt(t, p, odd, "if.t: _ -> no();", 0, api.ErrForm)
	wantFaultAt(t, p, odd, "s.t: _ -> no();", 0, api.ErrNone)
	nine := append(eight, "h")
	for _, s := range []string{"", "a.t: _ -> no();", "$", "h.t:", strings.Repeat(" ", api.MaxText+1)} {
		wantFaultAt(t, p, nine, s, 0, api.ErrArg)
		wantFaultAt(t, p, make([]string, 100), s, 0, api.ErrArg)
	}
}

func TestP12_1ProgramsThatMayNotBe(t *testing.T) {
	for what, change := range map[string]func(p *api.Prog){
		"nothing":      func(p *api.Prog) { *p = api.Prog{} },
		"no steps":     func(p *api.Prog) { p.Steps = nil },
		"a cycle":      func(p *api.Prog) { p.Steps[0].To = 0 },
		"a key":        func(p *api.Prog) { p.Tabs[tabT].Keys[0] = nil },
		"a kind":       func(p *api.Prog) { p.Tabs[tabE].Kinds[0] = 4 },
		"no kinds":     func(p *api.Prog) { p.Tabs[tabE].Kinds = nil },
		"no names":     func(p *api.Prog) { p.Names.Tables = nil },
		"a name less":  func(p *api.Prog) { p.Names.Actions = p.Names.Actions[1:] },
		"an action":    func(p *api.Prog) { p.Tabs[tabX].Acts[0] = 99 },
		"a default":    func(p *api.Prog) { p.Tabs[tabX].Default.Act = actPut },
		"a jump":       func(p *api.Prog) { p.Control = []api.Inst{{Kind: api.InJump}} },
		"an emit":      func(p *api.Prog) { p.Emit = []int{-1} },
		"a width of 0": func(p *api.Prog) { p.Heads[0][0] = 0 },
	} {
		p := lowered(t, whole)
		change(&p)
		for _, s := range []string{"", "s1.t: _ -> no();", "\n\n $", ")"} {
			wantFaultAt(t, p, ends(), s, 0, api.ErrArg)
			wantFaultAt(t, p, nil, s, 0, api.ErrArg)
		}
		if entries.May(p, nil) || entries.May(p, []api.Entry{routed(0, 1, 0, 1)}) || entries.May(p, []api.Entry{full()}) {
			t.Errorf("%s: May is true", what)
		}
		if s := entries.Text(p, ends(), [][]api.Entry{{routed(0, 1, 0, 1)}, nil, {full()}}); s != "" {
			t.Errorf("%s: Text is %q", what, s)
		}
	}
}

// What names mean hangs on the program's names: the first one of a name, and what no token is can't be called.
func TestP12_1Names(t *testing.T) {
	p := lowered(t, whole)
	p.Names.Tables = []string{"m", "if", "m", "", "t.u"}
	p.Names.Actions = []string{"no", "no", "drop", "", "fwd"}
	wantRead(t, p, ends(), "s1.m: 3/8 -> no(5);", []api.Entry{routed(3, 8, 0, 5)}, nil, nil)
	wantFault(t, p, api.ErrForm, "s1.@if: 3 -> no(5);", "s1.m: _ -> @drop();")
	wantFault(t, p, api.ErrNone, "s1.@t: _ -> no(5);", "s1.m: _ -> @fwd(5);")
	wantFault(t, p, api.ErrKind, "s1.m: @3 -> no(5);")
	wantFault(t, p, api.ErrShort, "s1.m: _ -> no(@);")
}

// Keys that are no field: their widths are those of their codes.
func TestP12_1Keys(t *testing.T) {
	p := lowered(t, `header h { bit<8> f; } metadata { bit<4> m; } parser { state s { extract(h); transition accept; } }
		action no() { }
		table t { key { port >> 3: exact; meta.m ++ h.f: lpm; ~h.f[6:5]: ternary; -meta.m: exact; } actions { no; } default no(); }
		control { } deparser { }`)
	e := entryOf(t, p, "s1.t: 9w511, 12w4095/11, 2w3 &&& 2, 4w15 -> no();")
	if !entries.Same([]api.Entry{e}, []api.Entry{{Pats: pats(of(511, 511), of(4094, 4094), of(2, 2), of(15, 15)), Len: 11}}) {
		t.Errorf("read is %v", e)
	}
	wantFault(t, p, api.ErrWidth, "s1.t: @8w1, _, _, 1 -> no();", "s1.t: 1, @8w1/1, _, 1 -> no();", "s1.t: 1, _, @3w1, 1 -> no();", "s1.t: 1, _, _, @8w1 -> no();")
	wantFault(t, p, api.ErrOver, "s1.t: @512, _, _, 1 -> no();", "s1.t: 1, @4096/1, _, 1 -> no();", "s1.t: 1, 1/@13, _, 1 -> no();", "s1.t: 1, _, @4, 1 -> no();", "s1.t: 1, _, _, @16 -> no();")
}

// Keys' codes may be long, entries many: each key's width is reckoned once.
func TestP12_1LongKeys(t *testing.T) {
	p := lowered(t, whole)
	long := slices.Clone(p.Tabs[tabT].Keys[0])
	for len(long) < api.MaxCode {
		long = append(long, api.Node{Op: api.OpNot, W: 8})
	}
	for n := range p.Tabs {
		p.Tabs[n].Kinds = []uint8{api.KeyTernary, api.KeyExact, api.KeyPrefix, api.KeyTernary}
		p.Tabs[n].Keys = []api.Code{long, long, long, long}
	}
	if !lower.May(p) {
		t.Fatal("the program may not be")
	}
	eight := []string{"a", "b", "c", "d", "e", "f", "g", "h"}
	want := make([][]api.Entry, 8)
	s := ""
	for n, name := range eight {
		for m := range 64 {
			want[n] = append(want[n], api.Entry{Tab: tabX, Pats: pats(of(uint64(m), 255), of(uint64(n), 255), of(0, 0), of(0, 0)), Run: api.Run{Act: actNo}})
			s += name + ".x: " + strconv.Itoa(m) + ", " + strconv.Itoa(n) + ", _, _ -> no();\n"
		}
	}
	wantRead(t, p, eight, s, want...)
	l, f := entries.Read(p, eight, entries.Text(p, eight, want))
	if f != (api.Fault{}) || !same(l, want) {
		t.Errorf("what is written is not read as the same: %v", f)
	}
}

func TestP12_1Memory(t *testing.T) {
	p, switches := lowered(t, whole), ends()
	before := lowered(t, whole)
	s := "s1.t: 192/4 prio 3 -> fwd(2); s1." + fullText + "prio." + fullText + "s1.t: 192/4 prio 3 -> fwd(2);"
	l, f := entries.Read(p, switches, s)
	if f != (api.Fault{}) || len(l[0]) != 3 || len(l[1]) != 1 {
		t.Fatal(l, f)
	}
	again, _ := entries.Read(p, switches, s)
	for n := range l {
		for i := range l[n] {
			e := &l[n][i]
			e.Pats[0], e.Run.Args[0] = of(7, 7), one(7)
			e.Pats, e.Run.Args = append(e.Pats, of(8, 8)), append(e.Run.Args, one(8))
		}
		l[n] = append(l[n], full())
	}
	if !same(again, [][]api.Entry{{routed(192, 4, 3, 2), full(), routed(192, 4, 3, 2)}, {full()}, nil}) {
		t.Errorf("two answers share memory: %v", again)
	}
	for i := range l[0][:3] {
		if !reflect.DeepEqual(l[0][i].Pats[0], of(7, 7)) || len(l[0][i].Pats) != len(again[0][i].Pats)+1 {
			t.Errorf("lists of one answer share memory: %v", l)
		}
	}
	wantUnchanged(t, "the program", p, before)
	wantUnchanged(t, "the switches", switches, ends())
}
