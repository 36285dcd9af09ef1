package entries_test

import (
	"math/rand"
	"reflect"
	"slices"
	"testing"

	"quillon/api"
	"quillon/entries"
	"quillon/lower"
	"quillon/num"
	"quillon/parse"
	"quillon/sample"
	"quillon/text"
)

// whole is the text of a program with each kind of a key, alone and among others, and keys and parameters of 1 and of 128 bits. prio is a table and an action; two is an action that no table but x lists.
const whole = `
header h { bit<8> f; bit<1> b; bit<7> s; bit<128> w; }
metadata { bit<64> m; }
parser { state s { extract(h); transition accept; } }
action fwd(bit<9> to) { forward(to); }
action no() { drop; }
action put(bit<8> f, bit<1> b, bit<128> w) { h.f = f; h.b = b; h.w = w; }
action prio(bit<64> m) { meta.m = m; }
action two(bit<1> b, bit<1> c) { h.b = b ^ c; }
table t { key { h.f: lpm; } actions { fwd; no; } default no(); }
table e { key { h.f: exact; } actions { no; put; fwd; } default no(); }
table m { key { h.f: ternary; } actions { fwd; no; prio; } default no(); }
table prio { key { h.b: exact; h.w: ternary; port: lpm; h.s: ternary; } actions { prio; no; put; } default no(); }
table x { key { h.w: lpm; h.b: exact; } actions { two; no; fwd; } default no(); }
control { apply t; apply e; apply m; apply prio; apply x; }
deparser { emit(h); }
`

// The numbers of what whole has.
const (
	tabT = iota
	tabE
	tabM
	tabPrio
	tabX
)

const (
	actFwd = iota
	actNo
	actPut
	actPrio
	actTwo
)

func lowered(t *testing.T, s string) api.Prog {
	t.Helper()
	tree, _, f := parse.Program(s)
	if f != (api.Fault{}) {
		t.Fatalf("%v in\n%s", f, s)
	}
	p, e := lower.Program(tree)
	if e != api.OK {
		t.Fatalf("%d of\n%s", e, s)
	}
	return p
}

// ends are switches: prio is one of them, and _1 a name as all others.
func ends() []string { return []string{"s1", "prio", "_1"} }

func one(lo uint64) api.Num { return api.Num{Lo: lo} }

// of is a pattern as it stands, whether it may be or not.
func of(v, m uint64) api.Pat { return api.Pat{V: one(v), M: one(m)} }

func pats(l ...api.Pat) []api.Pat { return l }

func args(l ...uint64) []api.Num {
	var all []api.Num
	for _, n := range l {
		all = append(all, one(n))
	}
	return all
}

// routed is an entry of t: a prefix of 8 bits, sent to a port.
func routed(v uint64, length, prio int, port uint64) api.Entry {
	m := uint64(0xff00) >> length & 0xff
	return api.Entry{Tab: tabT, Pats: pats(of(v, m)), Len: length, Prio: prio, Run: api.Run{Act: actFwd, Args: args(port)}}
}

// full is an entry of each part: of the table prio.
func full() api.Entry {
	return api.Entry{
		Tab:  tabPrio,
		Pats: pats(of(1, 1), api.Pat{V: api.Num{Hi: 2}, M: api.Num{Hi: 3, Lo: 1}}, of(0x180, 0x1c0), of(0, 0)),
		Len:  3, Prio: 77,
		Run: api.Run{Act: actPut, Args: []api.Num{one(255), one(1), num.Mask(128)}},
	}
}

const fullText = "prio: 1, 36893488147419103232 &&& 55340232221128654849, 384/3, 0 &&& 0 prio 77 -> put(255, 1, 340282366920938463463374607431768211455);\n"

func same(a, b [][]api.Entry) bool { return slices.EqualFunc(a, b, entries.Same) }

func wantRead(t *testing.T, p api.Prog, switches []string, s string, want ...[]api.Entry) {
	t.Helper()
	got, f := entries.Read(p, switches, s)
	if f != (api.Fault{}) || len(got) != len(switches) || !same(got, want) {
		t.Errorf("Read of %.500q is %.2000v, %v, want %.2000v", s, got, f, want)
	}
	for n, l := range got {
		if !entries.May(p, l) {
			t.Errorf("what Read tells of %.500q for %s may not be", s, switches[n])
		}
	}
}

func wantFaultAt(t *testing.T, p api.Prog, switches []string, s string, at int, e api.Errno) {
	t.Helper()
	got, f := entries.Read(p, switches, s)
	if want := text.Fault(s, at, e); f != want || got != nil {
		t.Errorf("Read of %.500q is %.2000v, %v, want %v", s, got, f, want)
	}
}

// wantFault wants the error where the @ stands.
func wantFault(t *testing.T, p api.Prog, e api.Errno, texts ...string) {
	t.Helper()
	for _, s := range texts {
		spot, at, is := sample.Spot(s)
		if !is {
			t.Fatalf("not one @ in %.500q", s)
		}
		wantFaultAt(t, p, ends(), spot, at, e)
	}
}

// A maker makes entries, and texts, by chance, always the same ones.
type maker struct {
	*rand.Rand
	p api.Prog
}

func newMaker(seed int64, p api.Prog) maker { return maker{rand.New(rand.NewSource(seed)), p} }

func pick[T any](m maker, l ...T) T { return l[m.Intn(len(l))] }

// number is below 2 to the power of w, often at an edge.
func (m maker) number(w int) api.Num {
	n := api.Num{Hi: m.Uint64(), Lo: m.Uint64()}
	return num.Cut(pick(m, n, n, one(0), one(1), num.Mask(128), num.Shl(one(1), w-1, 128)), w)
}

// top is a number of a width's highest bits, as many as told.
func top(many, w int) api.Num {
	return num.Sub(num.Shl(one(1), w, 128), num.Shl(one(1), w-many, 128), 128)
}

// entry may be.
func (m maker) entry() api.Entry {
	e := api.Entry{Tab: m.Intn(len(m.p.Tabs)), Prio: pick(m, 0, 0, 1, m.Intn(1000), 1<<16)}
	x := m.p.Tabs[e.Tab]
	for k, code := range x.Keys {
		w, _ := lower.Width(m.p, -1, code)
		mask := num.Mask(w)
		switch x.Kinds[k] {
		case api.KeyPrefix:
			e.Len = pick(m, 0, w, m.Intn(w+1))
			mask = top(e.Len, w)
		case api.KeyTernary:
			mask = m.number(w)
		}
		e.Pats = append(e.Pats, api.Pat{V: num.And(m.number(w), mask), M: mask})
	}
	e.Run.Act = pick(m, x.Acts...)
	for _, w := range m.p.Acts[e.Run.Act].Params {
		e.Run.Args = append(e.Run.Args, m.number(w))
	}
	return e
}

func (m maker) list(many int) []api.Entry {
	var l []api.Entry
	for range many {
		l = append(l, m.entry())
	}
	return l
}

// lists are of so many switches.
func (m maker) lists(switches, most int) [][]api.Entry {
	l := make([][]api.Entry, switches)
	for n := range l {
		l[n] = m.list(m.Intn(most + 1))
	}
	return l
}

// copied is an entry in other memory.
func copied(e api.Entry) api.Entry {
	e.Pats, e.Run.Args = slices.Clone(e.Pats), slices.Clone(e.Run.Args)
	return e
}

func wantUnchanged(t *testing.T, what string, got, want any) {
	t.Helper()
	if !reflect.DeepEqual(got, want) {
		t.Errorf("%s is changed to %.2000v", what, got)
	}
}
