package ask_test

import (
	"math"
	"slices"
	"testing"

	"quillon/api"
	"quillon/ask"
	"quillon/num"
	"quillon/sample"
)

func (x setup) wantMay(t *testing.T, what string, a api.Asks, want bool) {
	t.Helper()
	if got := ask.May(x.prog, x.net, a); got != want || reckonedMay(x, a) != want {
		t.Errorf("%s: May is %v, reckoned %v, want %v", what, got, reckonedMay(x, a), want)
	}
}

// A turn changes queries.
type turn struct {
	what   string
	change func(a *api.Asks)
}

// wantTurns wants whether queries, each change made to them anew, may be, and that they are as they were.
func (x setup) wantTurns(t *testing.T, want bool, turns []turn) {
	t.Helper()
	for _, c := range turns {
		a := whole(t, x)
		c.change(&a)
		before := copied(a)
		x.wantMay(t, c.what, a, want)
		wantUnchanged(t, c.what, a, before)
	}
	wantUnchanged(t, "the program", x.prog, usual(t).prog)
	wantUnchanged(t, "the network", x.net, usual(t).net)
}

func TestP14_2May(t *testing.T) {
	x := usual(t)
	x.wantTurns(t, true, []turn{
		{"nothing else", func(a *api.Asks) {}},
		{"no queries", func(a *api.Asks) { a.L = nil }},
		{"an empty list of queries", func(a *api.Asks) { a.L = []api.Ask{} }},
		{"length 0", func(a *api.Asks) { a.Len = 0 }},
		{"one hop", func(a *api.Asks) { a.Hops = 1 }},
		{"two nodes", func(a *api.Asks) { a.Nodes = 2 }},
		{"sixteen queries", func(a *api.Asks) { a.L = slices.Repeat(a.L[:1], 16) }},
		{"other ends", func(a *api.Asks) { a.L[1].From = ends(end(atA, 1), end(atA, 2), end(atReach, 5)) }},
		{"all ends", func(a *api.Asks) {
			a.L[0].From = freeEnds(x.net)
			a.L[0].To = freeEnds(x.net)
		}},
		{"one end in both", func(a *api.Asks) { a.L[4].To = a.L[4].From }},
		{"ends in another order", func(a *api.Asks) { slices.Reverse(a.L[0].From) }},
		{"no predicate", func(a *api.Asks) { a.L[0].Pred = nil }},
		{"an empty predicate", func(a *api.Asks) { a.L[0].Pred = api.Code{} }},
		{"a predicate more", func(a *api.Asks) { a.L[2].Pred = api.Code{{Op: api.OpConst, W: 1, V: num.Of(1)}} }},
		{"one of no truth, of 1 bit", func(a *api.Asks) { a.L[2].Pred = api.Code{{Op: api.OpMeta, W: 1, A: 2}} }},
		{"an empty To", func(a *api.Asks) { a.L[1].To = []api.End{} }},
		{"another kind", func(a *api.Asks) { a.L[1].Kind = api.AskInvalid }},
		{"another kind with To", func(a *api.Asks) { a.L[0].Kind = api.AskIsolate }},
	})
	x.wantMay(t, "the least", api.Asks{Hops: 1, Nodes: 2}, true)
}

func TestP14_2MayNot(t *testing.T) {
	x := usual(t)
	x.wantMay(t, "nothing", api.Asks{}, false)
	x.wantTurns(t, false, []turn{
		{"a length below 0", func(a *api.Asks) { a.Len = -1 }},
		{"a length far below", func(a *api.Asks) { a.Len = math.MinInt }},
		{"a length too great", func(a *api.Asks) { a.Len = 9 }},
		{"a length far too great", func(a *api.Asks) { a.Len = math.MaxInt }},
		{"no hops", func(a *api.Asks) { a.Hops = 0 }},
		{"hops below", func(a *api.Asks) { a.Hops = -1 }},
		{"too many hops", func(a *api.Asks) { a.Hops = 7 }},
		{"far too many hops", func(a *api.Asks) { a.Hops = math.MaxInt }},
		{"no nodes", func(a *api.Asks) { a.Nodes = 0 }},
		{"one node", func(a *api.Asks) { a.Nodes = 1 }},
		{"nodes far below", func(a *api.Asks) { a.Nodes = math.MinInt }},
		{"too many nodes", func(a *api.Asks) { a.Nodes = 1<<20 + 1 }},
		{"far too many nodes", func(a *api.Asks) { a.Nodes = math.MaxInt }},
		{"seventeen queries", func(a *api.Asks) { a.L = slices.Repeat(a.L[:1], 17) }},
		{"very many queries", func(a *api.Asks) { a.L = slices.Repeat(a.L[:1], 1<<12) }},
		{"a query of nothing", func(a *api.Asks) { a.L[4] = api.Ask{} }},
		{"no kind", func(a *api.Asks) { a.L[2].Kind = 0 }},
		{"another kind", func(a *api.Asks) { a.L[2].Kind = 6 }},
		{"a kind far beyond", func(a *api.Asks) { a.L[0].Kind = 255 }},
		{"a kind that wants To", func(a *api.Asks) { a.L[1].Kind = api.AskReach }},
		{"another kind that wants To", func(a *api.Asks) { a.L[2].Kind = api.AskIsolate }},
		{"no To", func(a *api.Asks) { a.L[0].To = nil }},
		{"an empty To", func(a *api.Asks) { a.L[4].To = []api.End{} }},
		{"a To of drop", func(a *api.Asks) { a.L[1].To = ends(end(atA, 1)) }},
		{"a To of loop", func(a *api.Asks) { a.L[2].To = ends(end(atA, 1)) }},
		{"a To of invalid", func(a *api.Asks) { a.L[3].To = ends(end(atA, 1)) }},
		{"no From", func(a *api.Asks) { a.L[0].From = nil }},
		{"an empty From", func(a *api.Asks) { a.L[1].From = []api.End{} }},
		{"neither From nor To", func(a *api.Asks) { a.L[4].From, a.L[4].To = nil, nil }},
		{"an end that is linked", func(a *api.Asks) { a.L[0].From[2] = end(atA, 3) }},
		{"its other end", func(a *api.Asks) { a.L[1].From[0] = end(atTo, 2) }},
		{"one of To that is linked", func(a *api.Asks) { a.L[4].To[0] = end(atA, 511) }},
		{"its other end, behind another one", func(a *api.Asks) { a.L[0].To[1] = end(atWhere, 8) }},
		{"a port that is not there", func(a *api.Asks) { a.L[0].From[0].Port = 4 }},
		{"no port", func(a *api.Asks) { a.L[3].From[0].Port = 0 }},
		{"a port below", func(a *api.Asks) { a.L[0].To[0].Port = -1 }},
		{"a port far beyond", func(a *api.Asks) { a.L[0].To[1].Port = math.MaxInt }},
		{"another switch's port", func(a *api.Asks) { a.L[3].From[0].Switch = atTo }},
		{"a switch without ports", func(a *api.Asks) { a.L[2].From[1].Switch = 4 }},
		{"a switch beyond", func(a *api.Asks) { a.L[2].From[1].Switch = 5 }},
		{"a switch below", func(a *api.Asks) { a.L[0].To[0].Switch = -1 }},
		{"a switch far beyond", func(a *api.Asks) { a.L[4].To[0].Switch = math.MaxInt }},
		{"a switch far below", func(a *api.Asks) { a.L[4].From[0].Switch = math.MinInt }},
		{"an end of nothing", func(a *api.Asks) { a.L[1].From[0] = api.End{} }},
		{"an end twice", func(a *api.Asks) { a.L[2].From[1] = a.L[2].From[0] }},
		{"an end twice, others between", func(a *api.Asks) { a.L[0].From[2] = a.L[0].From[0] }},
		{"an end of To twice", func(a *api.Asks) { a.L[0].To[1] = a.L[0].To[0] }},
		{"an end very many times", func(a *api.Asks) { a.L[0].From = slices.Repeat(a.L[0].From, 1<<14) }},
		{"a predicate of 9 bits", func(a *api.Asks) { a.L[0].Pred = api.Code{{Op: api.OpPort, W: 9}} }},
		{"one of 2 bits", func(a *api.Asks) { a.L[1].Pred = api.Code{{Op: api.OpMeta, W: 2, A: 4}} }},
		{"one without a width", func(a *api.Asks) { a.L[1].Pred = api.Code{{}} }},
		{"one of two values", func(a *api.Asks) { a.L[3].Pred = slices.Repeat(a.L[3].Pred, 2) }},
		{"one that takes what there is not", func(a *api.Asks) { a.L[0].Pred = a.L[0].Pred[1:] }},
		{"one without its end", func(a *api.Asks) { a.L[0].Pred = a.L[0].Pred[:2] }},
		{"one of a header that is not there", func(a *api.Asks) { a.L[3].Pred[0].A = 2 }},
		{"one of an action's parameter", func(a *api.Asks) { a.L[2].Pred = api.Code{{Op: api.OpParam, W: 1}} }},
		{"one that is too long", func(a *api.Asks) {
			c := slices.Repeat(api.Code{{Op: api.OpNot, W: 1}}, api.MaxCode+1)
			c[0] = api.Node{Op: api.OpConst, W: 1}
			a.L[0].Pred = c
		}},
	})
	// Wherever the wrong one is.
	for i := range 16 {
		a := bounded(slices.Repeat(whole(t, x).L[2:3], 16)...)
		a.L[i].Kind = 0
		x.wantMay(t, "one of sixteen", a, false)
	}
}

// Of the longest code that may be: it may be asked.
func TestP14_2LongPredicate(t *testing.T) {
	x := usual(t)
	c := slices.Repeat(api.Code{{Op: api.OpNot, W: 1}}, api.MaxCode)
	c[0] = api.Node{Op: api.OpValid, W: 1}
	x.wantMay(t, "of 2^16 nodes", bounded(api.Ask{Kind: api.AskLoop, From: ends(end(atA, 1)), Pred: c}), true)
}

// Of a program, or a network, that may not be no queries may be, nor bounds alone.
func TestP14_2MayOfWhatMayNotBe(t *testing.T) {
	x := usual(t)
	for _, a := range []api.Asks{bounded(), whole(t, x)} {
		if !ask.May(x.prog, x.net, a) {
			t.Fatal("may not be")
		}
		wrong := x.prog
		wrong.Steps = nil
		for _, p := range []api.Prog{{}, wrong} {
			if ask.May(p, x.net, a) || ask.May(p, api.Net{}, a) {
				t.Error("may be of a program that may not be")
			}
		}
		wrongNet := x.net
		wrongNet.Links = slices.Concat(x.net.Links, x.net.Links[:1])
		wrongPorts := x.net
		wrongPorts.Ports = x.net.Ports[:4]
		for _, n := range []api.Net{wrongNet, wrongPorts, {Switches: []string{"if"}, Ports: [][]int{nil}}, {Ports: x.net.Ports}} {
			if ask.May(x.prog, n, a) {
				t.Errorf("may be of the network %v", n)
			}
		}
	}
	x.net = api.Net{}
	x.wantMay(t, "of no switches, bounds", bounded(), true)
	x.wantMay(t, "of no switches", whole(t, x), false)
	// A predicate is of one program.
	least := setupOf(t, sample.LeastText, wired)
	least.wantMay(t, "of another program", bounded(api.Ask{Kind: api.AskDrop, From: ends(end(atA, 1))}), true)
	least.wantMay(t, "of another program, with a predicate", bounded(api.Ask{Kind: api.AskDrop, From: ends(end(atA, 1)), Pred: usual(t).code(t, "isValid(h)")}), false)
}

// eachNumber hands on all numbers of queries.
func eachNumber(a *api.Asks, ints func(n *int), kinds func(n *uint8)) {
	for _, n := range []*int{&a.Len, &a.Hops, &a.Nodes} {
		ints(n)
	}
	for i := range a.L {
		q := &a.L[i]
		kinds(&q.Kind)
		for _, l := range [][]api.End{q.From, q.To} {
			for k := range l {
				ints(&l[k].Switch)
				ints(&l[k].Port)
			}
		}
		for k := range q.Pred {
			kinds(&q.Pred[k].Op)
			for _, n := range []*int{&q.Pred[k].W, &q.Pred[k].A, &q.Pred[k].B} {
				ints(n)
			}
		}
	}
}

// Queries by chance, each of their numbers by others: May is what is reckoned.
func TestP14_2MayOfEachNumber(t *testing.T) {
	m := newMaker(142, usual(t))
	told := map[bool]int{}
	for range 100 {
		a, _ := m.asks(3)
		hold := func() {
			want := reckonedMay(m.setup, a)
			if got := ask.May(m.prog, m.net, a); got != want {
				t.Errorf("May of %v is %v", a, got)
			}
			told[want]++
		}
		eachNumber(&a, func(n *int) {
			old := *n
			for _, other := range []int{old - 1, old, old + 1, pick(m, -old, 3, 4), pick(m, 0, 1, 2, 5, 7, 9, 511), pick(m, math.MaxInt, math.MinInt)} {
				*n = other
				hold()
			}
			*n = old
		}, func(n *uint8) {
			old := *n
			for other := range uint8(7) {
				*n = other
				hold()
			}
			*n = old
		})
	}
	if told[true] < 1000 || told[false] < 5000 {
		t.Errorf("told are %v", told)
	}
}

func wantSame(t *testing.T, a, b api.Asks, want bool) {
	t.Helper()
	if ask.Same(a, b) != want || ask.Same(b, a) != want || same(a, b) != want {
		t.Errorf("Same of %v and %v is not %v", a, b, want)
	}
}

func TestP14_2Same(t *testing.T) {
	x := usual(t)
	wantSame(t, api.Asks{}, api.Asks{}, true)
	wantSame(t, api.Asks{}, api.Asks{L: []api.Ask{}}, true)
	wantSame(t, api.Asks{}, api.Asks{L: []api.Ask{{}}}, false)
	wantSame(t, api.Asks{L: []api.Ask{{}}}, api.Asks{L: []api.Ask{{From: []api.End{}, To: []api.End{}, Pred: api.Code{}}}}, true)
	wantSame(t, api.Asks{L: []api.Ask{{}}}, api.Asks{L: []api.Ask{{}, {}}}, false)
	wantSame(t, whole(t, x), whole(t, usual(t)), true)
	a := whole(t, x)
	differ := func() {
		wantSame(t, a, whole(t, x), false)
		wantSame(t, a, copied(a), true)
	}
	eachNumber(&a, func(n *int) {
		for _, other := range []int{*n + 1, *n - 1, -1 - *n, math.MaxInt} {
			old := *n
			*n = other
			differ()
			*n = old
		}
	}, func(n *uint8) {
		for _, other := range []uint8{*n + 1, *n - 1, *n ^ 128} {
			old := *n
			*n = other
			differ()
			*n = old
		}
	})
	for _, v := range []api.Num{num.Of(2), {Hi: 1, Lo: 1}} {
		a = whole(t, x)
		a.L[0].Pred[1].V = v
		differ()
	}
	for _, change := range []func(a *api.Asks){
		func(a *api.Asks) { a.L = nil },
		func(a *api.Asks) { a.L = a.L[:4] },
		func(a *api.Asks) { a.L = append(a.L, a.L[4]) },
		func(a *api.Asks) { slices.Reverse(a.L) },
		func(a *api.Asks) { slices.Reverse(a.L[0].From) },
		func(a *api.Asks) { slices.Reverse(a.L[0].To) },
		func(a *api.Asks) { slices.Reverse(a.L[0].Pred) },
		func(a *api.Asks) { a.L[0].From, a.L[0].To = a.L[0].To, a.L[0].From },
		func(a *api.Asks) { a.L[0].From = a.L[0].From[:2] },
		func(a *api.Asks) { a.L[0].From = append(a.L[0].From, end(9, 9)) },
		func(a *api.Asks) { a.L[0].From = nil },
		func(a *api.Asks) { a.L[4].To = nil },
		func(a *api.Asks) { a.L[4].To = append(a.L[4].To, a.L[4].To...) },
		func(a *api.Asks) { a.L[3].Pred = nil },
		func(a *api.Asks) { a.L[2].Pred = api.Code{{}} },
		func(a *api.Asks) { a.L[1].Pred = a.L[1].Pred[1:] },
		func(a *api.Asks) { a.L[1].From, a.L[2].From = a.L[2].From, a.L[1].From },
	} {
		a = whole(t, x)
		change(&a)
		differ()
	}
}

// Queries by chance: what is the same is the same the other way round, and of what is read alone.
func TestP14_2SameOfAny(t *testing.T) {
	m := newMaker(143, usual(t))
	var all []api.Asks
	for range 60 {
		a, s := m.asks(2)
		b, _ := ask.Read(m.tree, m.net, s)
		wantSame(t, a, b, true)
		all = append(all, a)
	}
	for _, a := range all {
		for _, b := range all {
			if got := ask.Same(a, b); got != same(a, b) {
				t.Errorf("Same of %v and %v is %v", a, b, got)
			}
		}
	}
}
