package ask_test

import (
	"math/rand"
	"reflect"
	"slices"
	"strconv"
	"strings"
	"testing"

	"quillon/api"
	"quillon/ask"
	"quillon/lower"
	"quillon/num"
	"quillon/parse"
	"quillon/print"
	"quillon/sample"
	"quillon/text"
	"quillon/topo"
)

// wired is the text of a network whose switches have some of the queries' words as names: a:1, a:2, to:1, where:7 and reach:5 are not linked.
const wired = "switch a { 1; 2; 3; 511; } switch to { 1; 2; } switch where { 7; 8; } switch reach { 5; } switch c { } link a:3 to:2; link where:8 a:511;"

// The numbers of what wired has.
const (
	atA = iota
	atTo
	atWhere
	atReach
)

func end(at, port int) api.End { return api.End{Switch: at, Port: port} }

func ends(l ...api.End) []api.End { return l }

func netOf(t *testing.T, s string) api.Net {
	t.Helper()
	n, f := topo.Read(s)
	if f != (api.Fault{}) {
		t.Fatalf("%v in\n%s", f, s)
	}
	return n
}

func treeOf(t *testing.T, s string) api.Program {
	t.Helper()
	p, _, f := parse.Program(s)
	if f != (api.Fault{}) {
		t.Fatalf("%v in\n%s", f, s)
	}
	return p
}

// A setup is what queries are read, and looked at, for.
type setup struct {
	tree api.Program
	prog api.Prog
	net  api.Net
}

func setupOf(t *testing.T, program, net string) setup {
	t.Helper()
	x := setup{tree: treeOf(t, program), net: netOf(t, net)}
	p, e := lower.Program(x.tree)
	if e != api.OK {
		t.Fatalf("%d of\n%s", e, program)
	}
	x.prog = p
	return x
}

// usual is of a program with names of all widths, and of wired.
func usual(t *testing.T) setup {
	t.Helper()
	return setupOf(t, sample.Typed, wired)
}

func (x setup) code(t *testing.T, s string) api.Code {
	t.Helper()
	e, f := parse.Expr(s)
	c, wrong := lower.Pred(x.tree, e)
	if f != (api.Fault{}) || wrong != api.OK {
		t.Fatalf("%v, %d of %s", f, wrong, s)
	}
	return c
}

// bounds stand ahead of queries.
const bounds = "length 1; hops 2; nodes 1000; "

func bounded(l ...api.Ask) api.Asks { return api.Asks{Len: 1, Hops: 2, Nodes: 1000, L: l} }

// whole has a query of each kind, with ends and a predicate, or without.
func whole(t *testing.T, x setup) api.Asks {
	t.Helper()
	return api.Asks{Len: 8, Hops: 6, Nodes: 1 << 20, L: []api.Ask{
		{Kind: api.AskReach, From: ends(end(atA, 2), end(atTo, 1), end(atA, 1)), To: ends(end(atReach, 5), end(atA, 2)), Pred: x.code(t, "h.f == 1 && !isValid(i)")},
		{Kind: api.AskDrop, From: ends(end(atWhere, 7)), Pred: x.code(t, "meta.o == 1")},
		{Kind: api.AskLoop, From: ends(end(atTo, 1), end(atA, 1))},
		{Kind: api.AskInvalid, From: ends(end(atReach, 5)), Pred: x.code(t, "isValid(h)")},
		{Kind: api.AskIsolate, From: ends(end(atA, 1)), To: ends(end(atTo, 1))},
	}}
}

const wholeText = `length 8; hops 6; nodes 1048576;
reach a:2, to:1, a:1 to reach:5, a:2 where h.f == 1 && !isValid(i);
drop where:7 where meta.o == 1;
loop to:1, a:1;
invalid reach:5 where isValid(h);
isolate a:1 to to:1;
`

// copied is queries in other memory.
func copied(a api.Asks) api.Asks {
	a.L = slices.Clone(a.L)
	for i, q := range a.L {
		a.L[i].From, a.L[i].To, a.L[i].Pred = slices.Clone(q.From), slices.Clone(q.To), slices.Clone(q.Pred)
	}
	return a
}

// same is Same reckoned in another way: of all that there is, written.
func same(a, b api.Asks) bool { return spelt(a) == spelt(b) }

func spelt(a api.Asks) string {
	var b strings.Builder
	row := func(l ...int) {
		for _, n := range l {
			b.WriteString(strconv.Itoa(n) + " ")
		}
		b.WriteString("\n")
	}
	row(a.Len, a.Hops, a.Nodes)
	for _, q := range a.L {
		row(int(q.Kind), len(q.From), len(q.To), len(q.Pred))
		for _, e := range slices.Concat(q.From, q.To) {
			row(e.Switch, e.Port)
		}
		for _, n := range q.Pred {
			row(int(n.Op), n.W, n.A, n.B)
			b.WriteString(num.Text(n.V) + "\n")
		}
	}
	return b.String()
}

func isNothing(a api.Asks) bool { return reflect.DeepEqual(a, api.Asks{}) }

func (x setup) wantRead(t *testing.T, s string, want api.Asks) {
	t.Helper()
	got, f := ask.Read(x.tree, x.net, s)
	if f != (api.Fault{}) || !same(got, want) || !ask.Same(got, want) {
		t.Errorf("Read of %.1000q is %v, %v, want %v", s, got, f, want)
	}
	if !ask.May(x.prog, x.net, got) {
		t.Errorf("what Read tells of %.1000q may not be: %v", s, got)
	}
}

// wantFault wants the error where the @ stands, and nothing beside it.
func (x setup) wantFault(t *testing.T, e api.Errno, texts ...string) {
	t.Helper()
	for _, s := range texts {
		spot, at, is := sample.Spot(s)
		if !is {
			t.Fatalf("not one @ in %.500q", s)
		}
		got, f := ask.Read(x.tree, x.net, spot)
		if want := text.Fault(spot, at, e); f != want || !isNothing(got) {
			t.Errorf("Read of %.1000q is %v, %v, want %v", spot, got, f, want)
		}
	}
}

// wantFaults wants the error in a query behind bounds, and, if there is an end to ask of, behind another query too.
func (x setup) wantFaults(t *testing.T, e api.Errno, queries ...string) {
	t.Helper()
	free := freeEnds(x.net)
	for _, s := range queries {
		x.wantFault(t, e, bounds+s)
		if len(free) > 0 {
			x.wantFault(t, e, bounds+"loop "+x.net.Switches[free[0].Switch]+":"+strconv.Itoa(free[0].Port)+";\n"+s)
		}
	}
}

func wantUnchanged(t *testing.T, what string, got, want any) {
	t.Helper()
	if !reflect.DeepEqual(got, want) {
		t.Errorf("%s is changed to %.2000v", what, got)
	}
}

// A maker makes queries, and texts, by chance, always the same ones.
type maker struct {
	*rand.Rand
	setup
	free []api.End // those that may be asked of
}

func newMaker(seed int64, x setup) maker {
	return maker{rand.New(rand.NewSource(seed)), x, freeEnds(x.net)}
}

func pick[T any](m maker, l ...T) T { return l[m.Intn(len(l))] }

// freeEnds are a network's ports but for those that its links name.
func freeEnds(n api.Net) []api.End {
	many := map[api.End]int{}
	for _, l := range n.Links {
		many[l.A]++
		many[l.B]++
	}
	var free []api.End
	for i, ports := range n.Ports {
		for _, p := range ports {
			if many[end(i, p)] == 0 {
				free = append(free, end(i, p))
			}
		}
	}
	return free
}

func (m maker) ends() []api.End {
	var l []api.End
	for _, i := range m.Perm(len(m.free))[:1+m.Intn(len(m.free))] {
		l = append(l, m.free[i])
	}
	return l
}

// asks may be, and have a text.
func (m maker) asks(most int) (api.Asks, string) {
	a := api.Asks{Len: m.Intn(9), Hops: 1 + m.Intn(6), Nodes: pick(m, 2, 3, 1000, 1<<20-1, 1<<20)}
	s := "length " + m.number(a.Len) + ";hops " + m.number(a.Hops) + ";nodes " + m.number(a.Nodes) + ";"
	for range m.Intn(most + 1) {
		q, line := m.ask()
		a.L = append(a.L, q)
		s += line
	}
	return a, s
}

func (m maker) ask() (api.Ask, string) {
	words := []string{"", "reach", "drop", "loop", "invalid", "isolate"}
	q := api.Ask{Kind: uint8(1 + m.Intn(5)), From: m.ends()}
	s := "\n" + words[q.Kind] + " " + m.row(q.From)
	if q.Kind == api.AskReach || q.Kind == api.AskIsolate {
		q.To = m.ends()
		s += " to " + m.row(q.To)
	}
	if m.Intn(2) == 0 {
		e := sample.Maker{Intn: m.Intn, Action: -1}.Truth(m.Intn(4))
		q.Pred, _ = lower.Pred(m.tree, e)
		s += " where" + pick(m, " ", "\n", " // to a:1;\n") + print.Expr(e) + pick(m, "", " ", " // ;\n\n")
	}
	return q, s + ";"
}

func (m maker) row(l []api.End) string {
	s := ""
	for _, e := range l {
		s += pick(m, ", ", ",", "\n,") + m.net.Switches[e.Switch] + ":" + m.number(e.Port)
	}
	return strings.TrimLeft(s, ", \n")
}

// number is written in digits, in hex, or with noughts ahead.
func (m maker) number(n int) string {
	return pick(m, strconv.Itoa(n), strconv.Itoa(n), "0x"+strconv.FormatInt(int64(n), 16), "00"+strconv.Itoa(n))
}
