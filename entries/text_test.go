package entries_test

import (
	"math"
	"slices"
	"strconv"
	"strings"
	"testing"

	"quillon/api"
	"quillon/entries"
	"quillon/num"
)

func wantText(t *testing.T, p api.Prog, switches []string, want string, l ...[]api.Entry) {
	t.Helper()
	if got := entries.Text(p, switches, l); got != want {
		t.Errorf("Text is\n%s\nwant\n%s", got, want)
	}
}

func TestP12_2Text(t *testing.T) {
	p := lowered(t, whole)
	wantText(t, p, ends(), "s1.t: 192/4 prio 0 -> fwd(2);\n", []api.Entry{routed(192, 4, 0, 2)}, nil, nil)
	wantText(t, p, ends(), "", nil, nil, nil)
	wantText(t, p, ends(), "", []api.Entry{}, nil, []api.Entry{})
	wantText(t, p, nil, "")
	wantText(t, p, []string{}, "", [][]api.Entry{}...)
	no := api.Run{Act: actNo}
	wantText(t, p, ends(), `s1.t: 0/0 prio 0 -> no();
s1.t: 255/8 prio 65536 -> fwd(511);
s1.t: 128/1 prio 1 -> fwd(0);
s1.e: 0 prio 0 -> no();
s1.e: 255 prio 0 -> put(255, 1, 340282366920938463463374607431768211455);
prio.m: 0 &&& 0 prio 0 -> no();
prio.m: 255 &&& 255 prio 2 -> prio(18446744073709551615);
prio.m: 0 &&& 255 prio 0 -> no();
prio.m: 4 &&& 6 prio 0 -> no();
prio.m: 240 &&& 240 prio 0 -> no();
_1.`+fullText+`_1.x: 0/0, 1 prio 0 -> two(0, 1);
_1.t: 192/4 prio 0 -> fwd(2);
`,
		[]api.Entry{
			{Tab: tabT, Pats: pats(of(0, 0)), Run: no}, routed(255, 8, 65536, 511), routed(128, 1, 1, 0),
			{Tab: tabE, Pats: pats(of(0, 255)), Run: no}, {Tab: tabE, Pats: pats(of(255, 255)), Run: full().Run},
		},
		[]api.Entry{
			{Tab: tabM, Pats: pats(of(0, 0)), Run: no}, {Tab: tabM, Pats: pats(of(255, 255)), Prio: 2, Run: api.Run{Act: actPrio, Args: args(math.MaxUint64)}},
			{Tab: tabM, Pats: pats(of(0, 255)), Run: no}, {Tab: tabM, Pats: pats(of(4, 6)), Run: no}, {Tab: tabM, Pats: pats(of(240, 240)), Run: no},
		},
		[]api.Entry{
			full(), {Tab: tabX, Pats: pats(of(0, 0), of(1, 1)), Run: api.Run{Act: actTwo, Args: args(0, 1)}}, routed(192, 4, 0, 2),
		})
}

// Names that are none, or there twice, are written as they are: of the program nothing but that it may be is asked.
func TestP12_2TextOfNames(t *testing.T) {
	p := lowered(t, whole)
	p.Names.Tables = []string{"", "t u", "m", "m", ";"}
	p.Names.Actions = []string{"->", "", "drop", "fwd", "fwd"}
	wantText(t, p, []string{"s"}, "s.: 192/4 prio 0 -> ->(2);\ns.t u: 7 prio 0 -> ();\ns.m: 0 &&& 0 prio 0 -> fwd(3);\n", []api.Entry{
		routed(192, 4, 0, 2), {Tab: tabE, Pats: pats(of(7, 255)), Run: api.Run{Act: actNo}}, {Tab: tabM, Pats: pats(of(0, 0)), Run: api.Run{Act: actPrio, Args: args(3)}},
	})
}

func TestP12_2NoText(t *testing.T) {
	p := lowered(t, whole)
	e := []api.Entry{routed(192, 4, 0, 2)}
	// Not as many as switches.
	wantText(t, p, ends(), "")
	wantText(t, p, ends(), "", e)
	wantText(t, p, ends(), "", e, e)
	wantText(t, p, ends(), "", e, e, e, nil)
	wantText(t, p, nil, "", e)
	wantText(t, p, nil, "", nil)
	wantText(t, p, []string{"s1"}, "")
	// A switch that is no name, or there twice.
	for _, s := range []string{"", "_", "if", "port", "1a", "a b", "a.b", "a-b", "s1 ", "s1\n", "abcdefghijklmnopq", "ä", "s1", "prio", "_1"} {
		wantText(t, p, append(ends(), s), "", e, e, e, e)
		wantText(t, p, append([]string{s}, ends()...), "", e, e, e, e)
		wantText(t, p, append(ends(), s), "", e, e, e, nil)
	}
	wantText(t, p, []string{"a", "b", "a"}, "", nil, e, nil)
	wantText(t, p, []string{"a", "a"}, "", nil, nil)
	// Entries that may not be, wherever they stand.
	for _, x := range []turn{
		{"a table", func(e *api.Entry) { e.Tab = 9 }}, {"a table below", func(e *api.Entry) { e.Tab = -1 }}, {"no patterns", func(e *api.Entry) { e.Pats = nil }}, {"a pattern", func(e *api.Entry) { e.Pats[0] = of(2, 2) }},
		{"a Len", func(e *api.Entry) { e.Len = 9 }}, {"a priority", func(e *api.Entry) { e.Prio = 65537 }}, {"a run", func(e *api.Entry) { e.Run.Act = -1 }}, {"an argument", func(e *api.Entry) { e.Run.Args[0] = num.Mask(128) }},
	} {
		bad := full()
		x.change(&bad)
		for n := range 3 {
			l := [][]api.Entry{slices.Clone(e), slices.Clone(e), slices.Clone(e)}
			l[n] = append(l[n], bad)
			wantText(t, p, ends(), "", l...)
			l[n] = []api.Entry{bad, e[0]}
			wantText(t, p, ends(), "", l...)
		}
	}
	// Of each switch 64, and no more.
	many := slices.Repeat(e, 64)
	line := "s1.t: 192/4 prio 0 -> fwd(2);\n"
	wantText(t, p, ends(), strings.Repeat(line, 64)+strings.Repeat("_1"+line[2:], 64), many, nil, many)
	wantText(t, p, ends(), "", many, nil, append(many, e[0]))
}

// Nothing bounds the switches of a text but their names.
func TestP12_2TextOfManySwitches(t *testing.T) {
	p := lowered(t, whole)
	e := []api.Entry{routed(192, 4, 0, 2)}
	var names []string
	var l [][]api.Entry
	want := ""
	for n := range 3000 {
		names, l = append(names, "s"+strconv.Itoa(n)), append(l, e)
		want += names[n] + ".t: 192/4 prio 0 -> fwd(2);\n"
	}
	wantText(t, p, names, want, l...)
	wantText(t, p, append(names, "s1500"), "", append(l, nil)...)
}

func TestP12_2TextChangesNothing(t *testing.T) {
	p, switches, l := lowered(t, whole), ends(), [][]api.Entry{{full()}, nil, {routed(192, 4, 0, 2), full()}}
	if entries.Text(p, switches, l) == "" || !entries.May(p, l[2]) || !entries.Same(l[0], []api.Entry{full()}) {
		t.Error("what may be is refused")
	}
	wantUnchanged(t, "the program", p, lowered(t, whole))
	wantUnchanged(t, "the switches", switches, ends())
	wantUnchanged(t, "the entries", l, [][]api.Entry{{full()}, nil, {routed(192, 4, 0, 2), full()}})
}
