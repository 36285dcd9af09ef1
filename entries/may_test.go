package entries_test

import (
	"math"
	"slices"
	"testing"

	"quillon/api"
	"quillon/entries"
	"quillon/num"
)

func wantMay(t *testing.T, p api.Prog, what string, want bool, l ...api.Entry) {
	t.Helper()
	if got := entries.May(p, l); got != want || reckonedMay(p, l) != want {
		t.Errorf("%s: May is %v, reckoned %v, want %v", what, got, reckonedMay(p, l), want)
	}
}

// A turn changes an entry.
type turn struct {
	what   string
	change func(e *api.Entry)
}

// wantTurns wants whether an entry, changed, may be, alone and among others.
func wantTurns(t *testing.T, p api.Prog, want bool, of func() api.Entry, turns []turn) {
	t.Helper()
	for _, x := range turns {
		e := of()
		x.change(&e)
		before := copied(e)
		wantMay(t, p, x.what, want, e)
		wantMay(t, p, x.what+", in front", want, e, routed(0, 1, 0, 1))
		wantMay(t, p, x.what+", behind", want, routed(0, 1, 0, 1), full(), e)
		wantUnchanged(t, x.what, e, before)
	}
}

func TestP12_2May(t *testing.T) {
	p := lowered(t, whole)
	wantMay(t, p, "none", true)
	wantMay(t, p, "an empty list", true, []api.Entry{}...)
	wantMay(t, p, "some", true, routed(192, 4, 0, 2), full(), routed(192, 4, 0, 2))
	wantTurns(t, p, true, full, []turn{
		{"nothing else", func(e *api.Entry) {}},
		{"another value of one bit", func(e *api.Entry) { e.Pats[0] = of(0, 1) }},
		{"all bits of a ternary key", func(e *api.Entry) { e.Pats[1] = api.Pat{V: num.Mask(128), M: num.Mask(128)} }},
		{"no bits of one", func(e *api.Entry) { e.Pats[1] = api.Pat{} }},
		{"a prefix in a ternary key", func(e *api.Entry) { e.Pats[3] = of(64, 64) }},
		{"single bits in one", func(e *api.Entry) { e.Pats[3] = of(64, 65) }},
		{"no prefix", func(e *api.Entry) { e.Pats[2], e.Len = of(0, 0), 0 }},
		{"the whole prefix", func(e *api.Entry) { e.Pats[2], e.Len = of(511, 511), 9 }},
		{"no priority", func(e *api.Entry) { e.Prio = 0 }},
		{"the greatest priority", func(e *api.Entry) { e.Prio = 65536 }},
		{"another action", func(e *api.Entry) { e.Run = api.Run{Act: actNo} }},
		{"an empty list of arguments", func(e *api.Entry) { e.Run = api.Run{Act: actNo, Args: []api.Num{}} }},
		{"an argument of 64 bits", func(e *api.Entry) { e.Run = api.Run{Act: actPrio, Args: args(math.MaxUint64)} }},
		{"arguments of nought", func(e *api.Entry) { e.Run.Args = args(0, 0, 0) }},
	})
	wantTurns(t, p, false, full, []turn{
		{"nothing", func(e *api.Entry) { *e = api.Entry{} }},
		{"a table beyond", func(e *api.Entry) { e.Tab = 5 }},
		{"a table far beyond", func(e *api.Entry) { e.Tab = math.MaxInt }},
		{"a table below", func(e *api.Entry) { e.Tab = -1 }},
		{"a table far below", func(e *api.Entry) { e.Tab = math.MinInt }},
		{"another table", func(e *api.Entry) { e.Tab = tabX }},
		{"no patterns", func(e *api.Entry) { e.Pats = nil }},
		{"a pattern less", func(e *api.Entry) { e.Pats = e.Pats[:3] }},
		{"a pattern more", func(e *api.Entry) { e.Pats = append(e.Pats, api.Pat{}) }},
		{"not all bits of an exact key", func(e *api.Entry) { e.Pats[0] = of(0, 0) }},
		{"too many bits of one", func(e *api.Entry) { e.Pats[0] = of(1, 3) }},
		{"a value that does not fit", func(e *api.Entry) { e.Pats[0] = of(3, 3) }},
		{"a value outside of its mask", func(e *api.Entry) { e.Pats[1].V.Lo = 2 }},
		{"one outside of an open one", func(e *api.Entry) { e.Pats[3] = of(1, 0) }},
		{"a mask that does not fit", func(e *api.Entry) { e.Pats[3] = of(0, 128) }},
		{"a prefix's mask that does not fit", func(e *api.Entry) { e.Pats[2] = of(0, 0x3c0) }},
		{"no prefix", func(e *api.Entry) { e.Pats[2] = of(0, 1) }},
		{"a prefix with a hole", func(e *api.Entry) { e.Pats[2] = of(0x100, 0x140) }},
		{"a shorter prefix", func(e *api.Entry) { e.Pats[2] = of(0x100, 0x180) }},
		{"a longer prefix", func(e *api.Entry) { e.Pats[2] = of(0x180, 0x1e0) }},
		{"an open prefix", func(e *api.Entry) { e.Pats[2] = of(0, 0) }},
		{"a Len less", func(e *api.Entry) { e.Len = 2 }},
		{"a Len more", func(e *api.Entry) { e.Len = 4 }},
		{"no Len", func(e *api.Entry) { e.Len = 0 }},
		{"a Len below 0", func(e *api.Entry) { e.Len = -3 }},
		{"the whole width", func(e *api.Entry) { e.Len = 9 }},
		{"a priority below 0", func(e *api.Entry) { e.Prio = -1 }},
		{"one far below", func(e *api.Entry) { e.Prio = math.MinInt }},
		{"a priority too great", func(e *api.Entry) { e.Prio = 65537 }},
		{"one far too great", func(e *api.Entry) { e.Prio = math.MaxInt }},
		{"an action that is not listed", func(e *api.Entry) { e.Run = api.Run{Act: actFwd, Args: args(1)} }},
		{"an action beyond", func(e *api.Entry) { e.Run.Act = 5 }},
		{"an action below", func(e *api.Entry) { e.Run.Act = -1 }},
		{"no arguments", func(e *api.Entry) { e.Run.Args = nil }},
		{"an argument less", func(e *api.Entry) { e.Run.Args = e.Run.Args[:2] }},
		{"an argument more", func(e *api.Entry) { e.Run.Args = append(e.Run.Args, one(0)) }},
		{"arguments of none", func(e *api.Entry) { e.Run.Act = actNo }},
		{"an argument that does not fit", func(e *api.Entry) { e.Run.Args[0] = one(256) }},
		{"another one", func(e *api.Entry) { e.Run.Args[1] = one(2) }},
	})
	plain := func() api.Entry {
		return api.Entry{Tab: tabE, Pats: pats(of(240, 255)), Run: api.Run{Act: actNo}}
	}
	wantTurns(t, p, true, plain, []turn{{"an exact key", func(e *api.Entry) {}}, {"a ternary key", func(e *api.Entry) { e.Tab = tabM }}, {"a prefix of all bits", func(e *api.Entry) { e.Tab, e.Len = tabT, 8 }}})
	// Without a key that asks for a prefix there is no Len, whatever the pattern is.
	wantTurns(t, p, false, plain, []turn{
		{"a Len of an exact key", func(e *api.Entry) { e.Len = 8 }},
		{"a Len of a ternary key", func(e *api.Entry) { e.Tab, e.Len = tabM, 8 }},
		{"a Len of a ternary prefix", func(e *api.Entry) { e.Tab, e.Pats, e.Len = tabM, pats(of(240, 240)), 4 }},
		{"a prefix of an exact key", func(e *api.Entry) { e.Pats = pats(of(240, 240)) }},
		{"a prefix of all bits without its Len", func(e *api.Entry) { e.Tab = tabT }},
	})
}

func TestP12_2MayOfMany(t *testing.T) {
	p := lowered(t, whole)
	m := newMaker(122, p)
	for n := range 130 {
		wantMay(t, p, "some", n <= 64, m.list(n)...)
	}
	wantMay(t, p, "64 of one", true, slices.Repeat([]api.Entry{full()}, 64)...)
	wantMay(t, p, "65 of one", false, slices.Repeat([]api.Entry{full()}, 65)...)
	bad := full()
	bad.Prio = -1
	for n := range 64 {
		l := m.list(63)
		wantMay(t, p, "one of 64", false, slices.Insert(l, n, bad)...)
	}
}

// eachNumber hands on all numbers of an entry.
func eachNumber(e *api.Entry, ints func(n *int), nums func(n *api.Num)) {
	for _, n := range []*int{&e.Tab, &e.Len, &e.Prio, &e.Run.Act} {
		ints(n)
	}
	for k := range e.Pats {
		nums(&e.Pats[k].V)
		nums(&e.Pats[k].M)
	}
	for k := range e.Run.Args {
		nums(&e.Run.Args[k])
	}
}

// Entries by chance, each of their numbers by others: May is what is reckoned.
func TestP12_2MayOfEachNumber(t *testing.T) {
	p := lowered(t, whole)
	m := newMaker(123, p)
	told := map[bool]int{}
	for range 500 {
		e := m.entry()
		hold := func() {
			want := reckonedMay(p, []api.Entry{e})
			if got := entries.May(p, []api.Entry{e}); got != want {
				t.Errorf("May of %v is %v", e, got)
			}
			told[want]++
		}
		eachNumber(&e, func(n *int) {
			old := *n
			for _, other := range []int{old - 1, old, old + 1, -old, 0, 1, 2, 3, 4, 5, 7, 8, 9, 128, 65536, 65537, math.MaxInt, math.MinInt} {
				*n = other
				hold()
			}
			*n = old
		}, func(n *api.Num) {
			old := *n
			for _, other := range []api.Num{num.Add(old, one(1), 128), num.Sub(old, one(1), 128), num.Shl(old, 1, 128), num.Shr(old, 1), num.Not(old, 128), one(0), one(1), one(255), one(256), num.Mask(128), {Hi: 1}} {
				*n = other
				hold()
			}
			*n = old
		})
	}
	if told[true] < 2000 || told[false] < 10000 {
		t.Errorf("told are %v", told)
	}
}

func wantSame(t *testing.T, a, b []api.Entry, want bool) {
	t.Helper()
	if entries.Same(a, b) != want || entries.Same(b, a) != want {
		t.Errorf("Same of %v and %v is not %v", a, b, want)
	}
}

func TestP12_2Same(t *testing.T) {
	wantSame(t, nil, nil, true)
	wantSame(t, nil, []api.Entry{}, true)
	wantSame(t, nil, []api.Entry{{}}, false)
	wantSame(t, []api.Entry{{}}, []api.Entry{{Pats: []api.Pat{}, Run: api.Run{Args: []api.Num{}}}}, true)
	wantSame(t, []api.Entry{full()}, []api.Entry{full()}, true)
	wantSame(t, []api.Entry{full()}, []api.Entry{full(), full()}, false)
	wantSame(t, []api.Entry{full(), routed(0, 1, 0, 1)}, []api.Entry{routed(0, 1, 0, 1), full()}, false)
	wantSame(t, []api.Entry{routed(0, 1, 0, 1), full()}, []api.Entry{routed(0, 1, 0, 1), full()}, true)
	e := full()
	differ := func() {
		wantSame(t, []api.Entry{e}, []api.Entry{full()}, false)
		wantSame(t, []api.Entry{full(), e}, []api.Entry{full(), full()}, false)
		wantSame(t, []api.Entry{e}, []api.Entry{e}, true)
	}
	eachNumber(&e, func(n *int) {
		for _, other := range []int{*n + 1, *n - 1, -1 - *n, math.MaxInt} {
			old := *n
			*n = other
			differ()
			*n = old
		}
	}, func(n *api.Num) {
		for _, other := range []api.Num{{Hi: n.Hi + 1, Lo: n.Lo}, {Hi: n.Hi, Lo: n.Lo - 1}} {
			old := *n
			*n = other
			differ()
			*n = old
		}
	})
	for _, x := range []turn{
		{"no patterns", func(e *api.Entry) { e.Pats = nil }},
		{"a pattern less", func(e *api.Entry) { e.Pats = e.Pats[:3] }},
		{"a pattern more", func(e *api.Entry) { e.Pats = append(e.Pats, api.Pat{}) }},
		{"patterns in another order", func(e *api.Entry) { slices.Reverse(e.Pats) }},
		{"no arguments", func(e *api.Entry) { e.Run.Args = nil }},
		{"an argument less", func(e *api.Entry) { e.Run.Args = e.Run.Args[:2] }},
		{"an argument more", func(e *api.Entry) { e.Run.Args = append(e.Run.Args, one(0)) }},
		{"arguments in another order", func(e *api.Entry) { slices.Reverse(e.Run.Args) }},
	} {
		e = full()
		x.change(&e)
		differ()
	}
}
