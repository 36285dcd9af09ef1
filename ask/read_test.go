package ask_test

import (
	"slices"
	"strconv"
	"strings"
	"testing"
	"unsafe"

	"quillon/api"
	"quillon/ask"
	"quillon/sample"
	"quillon/topo"
)

func TestP14_1Examples(t *testing.T) {
	x := setupOf(t, sample.LeastText, "switch a { 1; 2; }")
	x.wantRead(t, "length 1; hops 1; nodes 100; drop a:1;", api.Asks{Len: 1, Hops: 1, Nodes: 100, L: []api.Ask{{Kind: api.AskDrop, From: ends(end(0, 1))}}})
	x.wantFault(t, api.ErrOver, "length @9; hops 1; nodes 100; drop a:1;")
}

func TestP14_1Read(t *testing.T) {
	x := usual(t)
	x.wantRead(t, wholeText, whole(t, x))
	x.wantRead(t, bounds, bounded())
	x.wantRead(t, "// all\nlength//\n1 ;hops\t2;nodes 0x3E8;\n// drop a:1;\n", bounded())
	for word, kind := range map[string]uint8{"drop": api.AskDrop, "loop": api.AskLoop, "invalid": api.AskInvalid} {
		x.wantRead(t, bounds+word+" a:1;", bounded(api.Ask{Kind: kind, From: ends(end(atA, 1))}))
		x.wantRead(t, bounds+word+"//\na:0x1//;\n,to : 01\t; // end", bounded(api.Ask{Kind: kind, From: ends(end(atA, 1), end(atTo, 1))}))
		x.wantRead(t, bounds+word+" a:2 where port<3;", bounded(api.Ask{Kind: kind, From: ends(end(atA, 2)), Pred: x.code(t, "port < 3")}))
	}
	for word, kind := range map[string]uint8{"reach": api.AskReach, "isolate": api.AskIsolate} {
		x.wantRead(t, bounds+word+" a:1 to a:2;", bounded(api.Ask{Kind: kind, From: ends(end(atA, 1)), To: ends(end(atA, 2))}))
		x.wantRead(t, bounds+word+" a:2,a:1 to reach:5,a:1,to:1 where isValid(h);", bounded(api.Ask{Kind: kind, From: ends(end(atA, 2), end(atA, 1)), To: ends(end(atReach, 5), end(atA, 1), end(atTo, 1)), Pred: x.code(t, "isValid(h)")}))
	}
}

func TestP14_1EachBound(t *testing.T) {
	x := usual(t)
	texts := func(n int) []string {
		return []string{strconv.Itoa(n), "0" + strconv.Itoa(n), "0x" + strconv.FormatInt(int64(n), 16)}
	}
	hold := func(length, hops, nodes int) {
		for i := range texts(0) {
			s := "length " + texts(length)[i] + "; hops " + texts(hops)[i] + "; nodes " + texts(nodes)[i] + ";"
			x.wantRead(t, s, api.Asks{Len: length, Hops: hops, Nodes: nodes})
		}
	}
	for n := range 9 {
		hold(n, 1, 2)
	}
	for n := range 6 {
		hold(0, n+1, 1<<20)
	}
	for _, n := range []int{2, 3, 4, 255, 256, 65535, 65536, 65537, 1<<20 - 1, 1 << 20} {
		hold(8, 6, n)
	}
}

// From and To are lists each of its own; their ends stand in the text's order.
func TestP14_1Ends(t *testing.T) {
	x := usual(t)
	all := ends(end(atA, 1), end(atA, 2), end(atTo, 1), end(atWhere, 7), end(atReach, 5))
	x.wantRead(t, bounds+"reach a:1,a:2,to:1,where:7,reach:5 to a:1,a:2,to:1,where:7,reach:5;", bounded(api.Ask{Kind: api.AskReach, From: all, To: all}))
	turned := slices.Clone(all)
	slices.Reverse(turned)
	x.wantRead(t, bounds+"isolate reach:5,where:7,to:1,a:2,a:1 to a:1,a:2,to:1,where:7,reach:5;", bounded(api.Ask{Kind: api.AskIsolate, From: turned, To: all}))
	x.wantRead(t, bounds+"reach a:1 to a:1;reach a:1 to a:1;", bounded(
		api.Ask{Kind: api.AskReach, From: ends(end(atA, 1)), To: ends(end(atA, 1))}, api.Ask{Kind: api.AskReach, From: ends(end(atA, 1)), To: ends(end(atA, 1))}))
}

// The text's words are names of switches as all others, but for those that are keywords.
func TestP14_1WordsAsNames(t *testing.T) {
	words := strings.Fields("length hops nodes reach isolate loop to where")
	s := ""
	for _, w := range words {
		s += "switch " + w + "{1;}"
	}
	x := setupOf(t, sample.Typed, s)
	for i, w := range words {
		from := ends(end(i, 1))
		p := x.code(t, "port == 1")
		x.wantRead(t, bounds+"drop "+w+":1;", bounded(api.Ask{Kind: api.AskDrop, From: from}))
		x.wantRead(t, bounds+"loop "+w+":1 where port == 1;", bounded(api.Ask{Kind: api.AskLoop, From: from, Pred: p}))
		for k, other := range words {
			if k != i {
				x.wantRead(t, bounds+"reach "+w+":1,"+other+":1 to "+other+":1,"+w+":1 where port == 1;", bounded(api.Ask{Kind: api.AskReach, From: ends(end(i, 1), end(k, 1)), To: ends(end(k, 1), end(i, 1)), Pred: p}))
			}
		}
	}
	x.wantFaults(t, api.ErrForm, "drop @drop:1;", "drop @invalid:1;", "reach to:1 to @drop:1;", "loop @port:1;")
}

func TestP14_1Predicates(t *testing.T) {
	x := usual(t)
	for _, s := range []string{
		"isValid(h)", "!isValid(h)", "h.f == 1", "h.f == 8w1", "port != 9w511", "meta.w < 5", "(h.f ++ h.g)[3:0] >= meta.m", "1 == port", "((port == 1))",
		"h.f == 1 && h.g == 2 || !isValid(i) && port > 3", "i.w == 340282366920938463463374607431768211455", "h.f << 127 == -h.f", "meta.h == port",
	} {
		q := api.Ask{Kind: api.AskDrop, From: ends(end(atA, 1)), Pred: x.code(t, s)}
		for _, line := range []string{"drop a:1 where " + s + ";", "drop a:1 where" + " " + s + "\n\t;", "drop a:1 where // ;\n" + s + "//;\n;", "drop a:1 where\n\n" + s + ";"} {
			x.wantRead(t, bounds+line, bounded(q))
			x.wantRead(t, bounds+line+line, bounded(q, q))
		}
	}
}

func TestP14_1AsManyAsMayBe(t *testing.T) {
	s := ""
	var all []api.End
	for i := range 8 {
		s += "switch s" + strconv.Itoa(i) + "{1;2;3;4;508;509;510;511;}"
		for _, p := range []int{511, 510, 509, 508, 4, 3, 2, 1} {
			all = append(all, end(7-i, p))
		}
	}
	x := setupOf(t, sample.Typed, s)
	row := ""
	for _, e := range all {
		row += ",s" + strconv.Itoa(e.Switch) + ":" + strconv.Itoa(e.Port)
	}
	line := "reach " + row[1:] + " to " + row[1:] + " where isValid(i);"
	var l []api.Ask
	for range 16 {
		l = append(l, api.Ask{Kind: api.AskReach, From: all, To: all, Pred: x.code(t, "isValid(i)")})
	}
	x.wantRead(t, bounds+strings.Repeat(line, 16), bounded(l...))
	filled := bounds + strings.Repeat(line, 16)
	filled += strings.Repeat(" ", api.MaxText-len(filled))
	x.wantRead(t, filled, bounded(l...))
	x.wantFault(t, api.ErrLong, "@"+filled+" ")
	// A predicate as long as the text lets it be.
	long := bounds + "drop s0:1 where port == 1"
	long += strings.Repeat(" ", api.MaxText-len(long)-1) + ";"
	x.wantRead(t, long, bounded(api.Ask{Kind: api.AskDrop, From: ends(end(0, 1)), Pred: x.code(t, "port == 1")}))
}

// Of each number of 0 to 600: it is an end just if a port has it, that is not linked.
func TestP14_1EachPort(t *testing.T) {
	x := usual(t)
	for n := range 601 {
		d := strconv.Itoa(n)
		switch n {
		case 1, 2:
			x.wantRead(t, bounds+"drop a:"+d+";", bounded(api.Ask{Kind: api.AskDrop, From: ends(end(atA, n))}))
		case 3, 511:
			x.wantFaults(t, api.ErrKind, "drop a:@"+d+";")
		default:
			x.wantFaults(t, api.ErrNone, "drop a:@"+d+";")
		}
	}
}

// Queries by chance, written: what is read is what they were.
func TestP14_1Texts(t *testing.T) {
	m := newMaker(140, usual(t))
	kinds := map[uint8]int{}
	for range 3000 {
		a, s := m.asks(16)
		m.wantRead(t, s, a)
		for _, q := range a.L {
			kinds[q.Kind]++
		}
	}
	if len(kinds) != 5 {
		t.Errorf("made are %v", kinds)
	}
}

func TestP14_1Refused(t *testing.T) {
	x := usual(t)
	least := "metadata { %m } parser { state s { transition %n } } action a() { %a } table t { key { %k: exact; } actions { a; } default a(); } control { %c } deparser { }"
	textOf := func(old, with string) string {
		s := strings.Replace(least, old, with, 1)
		for _, r := range [][2]string{{"%m", ""}, {"%n", "accept;"}, {"%a", ""}, {"%k", "port"}, {"%c", ""}} {
			s = strings.Replace(s, r[0], r[1], 1)
		}
		return s
	}
	if _, f := ask.Read(treeOf(t, textOf("", "")), x.net, bounds); f != (api.Fault{}) {
		t.Fatal(f)
	}
	refused := func(what string, p api.Program, n api.Net) {
		t.Helper()
		for _, s := range []string{bounds, wholeText, "", "$", ";", "\n\nlength 9;", strings.Repeat(" ", api.MaxText+1)} {
			a, f := ask.Read(p, n, s)
			if f != (api.Fault{E: api.ErrArg, At: api.Place{Line: 1, Col: 1}}) || !isNothing(a) {
				t.Errorf("%s: Read of %.100q is %v, %v", what, s, a, f)
			}
		}
	}
	for _, r := range [][2]string{
		{"%m", "bit<1> m; bit<1> m;"}, {"%n", "t;"}, {"%n", "s;"}, {"%n", "select(1) { 1: accept; }"}, {"%n", "select(port) { 10w1: accept; }"},
		{"%a", "apply t;"}, {"%a", "forward(x);"}, {"%k", "5"}, {"%k", "isValid(h)"}, {"%c", "meta.m = 1;"}, {"%c", "forward(512);"}, {"%c", "if (port) { }"},
	} {
		refused(r[1], treeOf(t, textOf(r[0], r[1])), x.net)
	}
	refused("no program", api.Program{}, x.net)
	refused("a name that is none", api.Program{States: []api.State{{Name: "if", To: "accept"}}}, x.net)
	for _, n := range []api.Net{
		{Switches: []string{"a"}}, {Ports: [][]int{{1}}}, {Switches: []string{"if"}, Ports: [][]int{{1}}}, {Switches: []string{"a", "a"}, Ports: [][]int{{1}, {1}}},
		{Switches: []string{"a"}, Ports: [][]int{{2, 1}}}, {Switches: []string{"a"}, Ports: [][]int{{0}}}, {Switches: []string{"a"}, Ports: [][]int{{1}}, Links: []api.Link{{A: end(0, 1), B: end(0, 1)}}},
		{Switches: []string{"a"}, Ports: [][]int{{1}}, Links: make([]api.Link, 1)},
	} {
		refused("a network that may not be", x.tree, n)
		refused("neither", api.Program{}, n)
	}
	if !topo.May(x.net) {
		t.Error("the usual network may not be")
	}
}

// A network without ports, or without ends that are not linked, has no queries, but bounds.
func TestP14_1NoEnds(t *testing.T) {
	x := setupOf(t, sample.LeastText, "")
	x.wantRead(t, bounds, bounded())
	x.wantFaults(t, api.ErrNone, "drop @a:1;")
	x = setupOf(t, sample.LeastText, "switch a { } switch b { 1; 2; } link b:1 b:2;")
	x.wantRead(t, bounds, bounded())
	x.wantFaults(t, api.ErrNone, "drop a:@1;", "drop b:@3;")
	x.wantFaults(t, api.ErrKind, "drop b:@1;", "drop b:@2;")
}

// What is told is in memory of its own, and what was handed in is as it was.
func TestP14_1MemoryOfItsOwn(t *testing.T) {
	x := usual(t)
	b := []byte(wholeText)
	a, f := ask.Read(x.tree, x.net, unsafe.String(&b[0], len(b)))
	if f != (api.Fault{}) || string(b) != wholeText {
		t.Fatal(f, "the text is changed")
	}
	wantUnchanged(t, "the program", x.tree, usual(t).tree)
	wantUnchanged(t, "the network", x.net, usual(t).net)
	for i := range b {
		b[i] = '?'
	}
	for i := range x.net.Ports {
		clear(x.net.Ports[i])
	}
	clear(x.net.Switches)
	clear(x.tree.Headers)
	clear(x.tree.Metas)
	x = usual(t)
	want := whole(t, x)
	if !same(a, want) {
		t.Error(a)
	}
	// Each list is changed, and grows, alone.
	for i := range a.L {
		q, w := &a.L[i], &want.L[i]
		for k, l := range []*[]api.End{&q.From, &q.To} {
			old := []*[]api.End{&w.From, &w.To}[k]
			*l, *old = append(*l, end(i, k)), append(*old, end(i, k))
			for n := range *l {
				(*l)[n].Port += 100*i + k
				(*old)[n].Port += 100*i + k
			}
		}
		q.Pred, w.Pred = append(q.Pred, api.Node{A: i}), append(w.Pred, api.Node{A: i})
		for n := range q.Pred {
			q.Pred[n].B += i
			w.Pred[n].B += i
		}
	}
	if !same(a, want) {
		t.Errorf("%v, want %v", a, want)
	}
	x.wantRead(t, wholeText, whole(t, x))
}
