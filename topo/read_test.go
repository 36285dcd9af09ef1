package topo_test

import (
	"reflect"
	"strconv"
	"strings"
	"testing"
	"unsafe"

	"quillon/api"
	"quillon/topo"
)

func TestP13_1Examples(t *testing.T) {
	const s = "switch a { 1; 2; } switch b { 1; } link a:2 b:1;"
	wantRead(t, s, small())
	n, _ := topo.Read(s)
	if to, there, linked := topo.Next(n, end(0, 2)); to != end(1, 1) || !there || !linked {
		t.Error(to, there, linked)
	}
	wantFault(t, api.ErrTwice, "switch a { 1; @1; }")
}

func TestP13_1Read(t *testing.T) {
	wantRead(t, smallText, small())
	wantRead(t, wideText, wide())
	wantRead(t, "switch a{}", api.Net{Switches: []string{"a"}, Ports: [][]int{nil}})
	wantRead(t, "switch a{511;}switch b{1;}", api.Net{Switches: []string{"a", "b"}, Ports: [][]int{{511}, {1}}})
	wantRead(t, "// all\n\tswitch // a\n a\n{ 1 ;2; }switch b{1;}\nlink a : 2// b:1;\n\tb:1 ; // end", small())
	wantRead(t, "switch a { 0x1; 002; } switch b { 0x01; } link a:0x02 b:0001;", small())
}

func TestP13_1Nothing(t *testing.T) {
	for _, s := range []string{"", " ", "\n\n", "//", "// switch a { }", "\t// x\n", strings.Repeat(" ", api.MaxText)} {
		n, f := topo.Read(s)
		if f != (api.Fault{}) || len(n.Switches)+len(n.Ports)+len(n.Links) != 0 || !topo.May(n) {
			t.Errorf("Read of %.100q is %v, %v", s, n, f)
		}
	}
}

// Ports are told rising, in whichever order the text has them.
func TestP13_1PortsRise(t *testing.T) {
	want := api.Net{Switches: []string{"a", "b"}, Ports: [][]int{{1, 2, 9, 10, 100, 255, 510, 511}, {3, 7}}, Links: []api.Link{link(end(0, 511), end(1, 3))}}
	for _, s := range []string{"1;2;9;10;100;255;510;511;", "511;510;255;100;10;9;2;1;", "10;1;511;2;100;9;510;255;"} {
		wantRead(t, "switch a{"+s+"}switch b{7;3;}link a:511 b:3;", want)
		wantRead(t, "switch a{"+s+"}switch b{3;7;}link a:511 b:3;", want)
	}
}

// Links, and the ends of each, are told in the text's order.
func TestP13_1LinksInTheirOrder(t *testing.T) {
	const nodes = "switch a{1;2;3;}switch b{1;2;3;}"
	want := api.Net{Switches: []string{"a", "b"}, Ports: [][]int{{1, 2, 3}, {1, 2, 3}}}
	want.Links = []api.Link{link(end(1, 3), end(0, 1)), link(end(0, 3), end(0, 2)), link(end(1, 1), end(1, 2))}
	wantRead(t, nodes+"link b:3 a:1;link a:3 a:2;link b:1 b:2;", want)
	want.Links = []api.Link{link(end(1, 2), end(1, 1)), link(end(0, 1), end(1, 3))}
	wantRead(t, nodes+"link b:2 b:1;link a:1 b:3;", want)
}

// switch and link are names as all others.
func TestP13_1WordsAsNames(t *testing.T) {
	wantRead(t, "switch switch{1;}switch link{1;}link switch:1 link:1;",
		api.Net{Switches: []string{"switch", "link"}, Ports: [][]int{{1}, {1}}, Links: []api.Link{link(end(0, 1), end(1, 1))}})
	wantRead(t, "switch link{1;2;}link link:1 link:2;", api.Net{Switches: []string{"link"}, Ports: [][]int{{1, 2}}, Links: []api.Link{link(end(0, 1), end(0, 2))}})
	for _, name := range []string{"__", "_1", "x", "w8", "prio", "Port", "to", "where", "abcdefghijklmnop"} {
		wantRead(t, "switch "+name+"{4;9;}link "+name+":9 "+name+":4;", api.Net{Switches: []string{name}, Ports: [][]int{{4, 9}}, Links: []api.Link{link(end(0, 9), end(0, 4))}})
	}
}

func TestP13_1AsManyAsMayBe(t *testing.T) {
	n := full()
	s := ""
	for _, name := range n.Switches {
		s += "switch " + name + "{511;510;509;508;4;3;2;1;}"
	}
	for _, l := range n.Links {
		s += "link s" + strconv.Itoa(l.A.Switch) + ":" + strconv.Itoa(l.A.Port) + " s" + strconv.Itoa(l.B.Switch) + ":" + strconv.Itoa(l.B.Port) + ";"
	}
	wantRead(t, s, n)
	wantRead(t, s+strings.Repeat("\n", api.MaxText-len(s)), n)
	wantFault(t, api.ErrLong, "@"+s+strings.Repeat("\n", api.MaxText-len(s)+1))
}

// Of each port of 1 to 511: it may be, and be linked.
func TestP13_1EachPort(t *testing.T) {
	for p := 1; p <= 511; p++ {
		d := strconv.Itoa(p)
		q := p%511 + 1
		want := api.Net{Switches: []string{"a", "b"}, Ports: [][]int{{min(p, q), max(p, q)}, {p}}, Links: []api.Link{link(end(0, p), end(1, p))}}
		wantRead(t, "switch a{"+d+";"+strconv.Itoa(q)+";}switch b{"+d+";}link a:"+d+" b:"+d+";", want)
	}
}

// What is told is in memory of its own: no bytes of the text, no list of another one.
func TestP13_1MemoryOfItsOwn(t *testing.T) {
	b := []byte(wideText)
	n, f := topo.Read(unsafe.String(&b[0], len(b)))
	if f != (api.Fault{}) || string(b) != wideText {
		t.Fatal(f, "the text is changed")
	}
	for i := range b {
		b[i] = '?'
	}
	if !same(n, wide()) {
		t.Error(n)
	}
	n.Switches = append(n.Switches, "x")
	for i := range n.Ports {
		n.Ports[i] = append(n.Ports[i], 99)
		for k := range n.Ports[i] {
			n.Ports[i][k] += 1000 * i
		}
	}
	n.Links[0].A.Port = 77
	for i, l := range wide().Ports {
		for k, p := range append(l, 99) {
			if n.Ports[i][k] != p+1000*i {
				t.Errorf("the ports are %v", n.Ports)
			}
		}
	}
	again, _ := topo.Read(wideText)
	if !reflect.DeepEqual(again.Links, wide().Links) {
		t.Error(again)
	}
}
