package topo_test

import (
	"math"
	"slices"
	"strings"
	"testing"

	"quillon/api"
	"quillon/topo"
)

// A turn is a change of a network.
type turn struct {
	what   string
	change func(n *api.Net)
}

// wantTurns wants of a network that may be, each change made to it anew, whether it may be still, and that it has a text just then.
func wantTurns(t *testing.T, want bool, of func() api.Net, turns []turn) {
	t.Helper()
	for _, x := range turns {
		n := of()
		x.change(&n)
		if topo.May(n) != want || reckonedMay(n) != want {
			t.Errorf("%s: May of %v is %v", x.what, n, topo.May(n))
		}
		if s := topo.Text(n); (s != "") != want {
			t.Errorf("%s: the text of %v is %q", x.what, n, s)
		}
	}
}

func TestP13_2May(t *testing.T) {
	for _, n := range []api.Net{{}, {Switches: []string{}, Ports: [][]int{}, Links: []api.Link{}}, small(), wide(), full()} {
		if !topo.May(n) {
			t.Errorf("may not be: %v", n)
		}
	}
	wantTurns(t, true, wide, []turn{
		{"nothing else", func(n *api.Net) {}},
		{"no links", func(n *api.Net) { n.Links = nil }},
		{"an empty list of ports", func(n *api.Net) { n.Ports[2] = []int{} }},
		{"links in another order", func(n *api.Net) { slices.Reverse(n.Links) }},
		{"a link turned round", func(n *api.Net) { n.Links[0].A, n.Links[0].B = n.Links[0].B, n.Links[0].A }},
		{"another name", func(n *api.Net) { n.Switches[0] = "w8" }},
		{"a name of one byte", func(n *api.Net) { n.Switches[0] = "Z" }},
		{"another port", func(n *api.Net) { n.Ports[3][0] = 1 }},
		{"a port more", func(n *api.Net) { n.Ports[2] = []int{511} }},
		{"a switch more", func(n *api.Net) { n.Switches, n.Ports = append(n.Switches, "x"), append(n.Ports, nil) }},
		{"eight switches", func(n *api.Net) {
			n.Switches, n.Ports = append(n.Switches, "e", "f", "g", "h"), append(n.Ports, nil, nil, []int{1}, []int{1})
		}},
		{"a link more", func(n *api.Net) { n.Links = append(n.Links, link(end(3, 510), end(1, 3))) }},
	})
}

func TestP13_2MayNot(t *testing.T) {
	wantTurns(t, false, wide, []turn{
		{"nine switches", func(n *api.Net) {
			n.Switches, n.Ports = append(n.Switches, "e", "f", "g", "h", "i"), append(n.Ports, nil, nil, nil, nil, nil)
		}},
		{"a name twice", func(n *api.Net) { n.Switches[3] = "switch" }},
		{"a list of ports less", func(n *api.Net) { n.Ports = n.Ports[:3] }},
		{"a list of ports more", func(n *api.Net) { n.Ports = append(n.Ports, nil) }},
		{"no ports", func(n *api.Net) { n.Ports = nil }},
		{"no switches", func(n *api.Net) { n.Switches = nil }},
		{"a switch less", func(n *api.Net) { n.Switches = n.Switches[:3] }},
		{"a switch less, with its ports", func(n *api.Net) { n.Switches, n.Ports = n.Switches[:3], n.Ports[:3] }},
		{"links alone", func(n *api.Net) { n.Switches, n.Ports = nil, nil }},
		{"nine ports", func(n *api.Net) { n.Ports[1] = append(n.Ports[1], 9) }},
		{"a port twice", func(n *api.Net) { n.Ports[0] = []int{1, 7, 7, 511} }},
		{"ports that fall", func(n *api.Net) { n.Ports[3] = []int{511, 510} }},
		{"ports in another order", func(n *api.Net) { n.Ports[0] = []int{7, 1, 511} }},
		{"the port 0", func(n *api.Net) { n.Ports[2] = []int{0} }},
		{"the port 0 ahead", func(n *api.Net) { n.Ports[0] = []int{0, 1, 7, 511} }},
		{"a port below", func(n *api.Net) { n.Ports[2] = []int{-1} }},
		{"a port far below", func(n *api.Net) { n.Ports[2] = []int{math.MinInt, 1} }},
		{"a port beyond", func(n *api.Net) { n.Ports[0] = []int{1, 7, 511, 512} }},
		{"a port far beyond", func(n *api.Net) { n.Ports[2] = []int{1, math.MaxInt} }},
		{"both far beyond", func(n *api.Net) { n.Ports[2] = []int{math.MaxInt, math.MinInt} }},
		{"a link of a port that is not there", func(n *api.Net) { n.Links[0].A.Port = 9 }},
		{"one of a switch without ports", func(n *api.Net) { n.Links[0].A = end(2, 1) }},
		{"one of no port", func(n *api.Net) { n.Links[0].B.Port = 0 }},
		{"one of a port below", func(n *api.Net) { n.Links[0].B.Port = -1 }},
		{"one of no switch", func(n *api.Net) { n.Links[2].B.Switch = 4 }},
		{"one of a switch below", func(n *api.Net) { n.Links[2].A.Switch = -1 }},
		{"one of a switch far below", func(n *api.Net) { n.Links[2].A.Switch = math.MinInt }},
		{"one of a switch far beyond", func(n *api.Net) { n.Links[2].B.Switch = math.MaxInt }},
		{"a link of nothing", func(n *api.Net) { n.Links[1] = api.Link{} }},
		{"an end with itself", func(n *api.Net) { n.Links[0].B = n.Links[0].A }},
		{"an end with itself, of no other link", func(n *api.Net) { n.Links = append(n.Links, link(end(3, 510), end(3, 510))) }},
		{"a link twice", func(n *api.Net) { n.Links = append(n.Links, n.Links[0]) }},
		{"a link twice, turned round", func(n *api.Net) { n.Links = append(n.Links, link(n.Links[2].B, n.Links[2].A)) }},
		{"an end in another link, A as A", func(n *api.Net) { n.Links[2].A = n.Links[0].A }},
		{"an end in another link, A as B", func(n *api.Net) { n.Links[2].A = n.Links[0].B }},
		{"an end in another link, B as A", func(n *api.Net) { n.Links[2].B = n.Links[1].A }},
		{"an end in another link, B as B", func(n *api.Net) { n.Links[2].B = n.Links[1].B }},
		{"very many links", func(n *api.Net) { n.Links = slices.Repeat(n.Links, 100000) }},
		{"very many switches", func(n *api.Net) {
			n.Switches, n.Ports = slices.Repeat(n.Switches, 100000), slices.Repeat(n.Ports, 100000)
		}},
		{"very many ports", func(n *api.Net) { n.Ports[0] = slices.Repeat(n.Ports[0], 100000) }},
	})
	for _, name := range append(strings.Fields("_ if port table default isValid meta 1 1a 8w1 a.b a-b a:1 ; & ä abcdefghijklmnopq"), "", " ", "a ", " a", "a b", "a\n", "a//", strings.Repeat("a", 1<<20)) {
		for i := range 4 {
			wantTurns(t, false, wide, []turn{{name, func(n *api.Net) { n.Switches[i] = name }}})
		}
	}
	// Of the greatest one no part can be more.
	wantTurns(t, false, full, []turn{
		{"a switch more", func(n *api.Net) { n.Switches, n.Ports = append(n.Switches, "x"), append(n.Ports, nil) }},
		{"a link more", func(n *api.Net) { n.Links = append(n.Links, link(end(0, 1), end(7, 1))) }},
		{"a port more", func(n *api.Net) { n.Ports[5] = []int{1, 2, 3, 4, 5, 508, 509, 510, 511} }},
		{"a port less, that is linked", func(n *api.Net) { n.Ports[5] = n.Ports[5][:7] }},
	})
}

// Names, numbers and links by others, by chance: May is what is reckoned.
func TestP13_2MayOfAny(t *testing.T) {
	m := newMaker(132)
	told := map[bool]int{}
	for range 50000 {
		n := m.wild()
		want := reckonedMay(n)
		if got := topo.May(n); got != want {
			t.Errorf("May of %v is %v", n, got)
		}
		if s := topo.Text(n); !want && s != "" {
			t.Errorf("the text of %v is %q", n, s)
		}
		told[want]++
	}
	if told[true] < 5000 || told[false] < 5000 {
		t.Errorf("told are %v", told)
	}
}

func TestP13_2Text(t *testing.T) {
	for _, x := range []struct {
		n    api.Net
		want string
	}{
		{api.Net{}, ""},
		{small(), smallText},
		{wide(), wideText},
		{api.Net{Switches: []string{"a"}, Ports: [][]int{nil}}, "switch a { }\n"},
		{api.Net{Switches: []string{"a"}, Ports: [][]int{{}}, Links: []api.Link{}}, "switch a { }\n"},
		{api.Net{Switches: []string{"b", "a"}, Ports: [][]int{{511}, {1, 511}}, Links: []api.Link{link(end(1, 511), end(0, 511))}}, "switch b { 511; }\nswitch a { 1; 511; }\nlink a:511 b:511;\n"},
		{api.Net{Switches: []string{"a"}, Ports: [][]int{{1, 2, 3, 4}}, Links: []api.Link{link(end(0, 4), end(0, 3)), link(end(0, 1), end(0, 2))}}, "switch a { 1; 2; 3; 4; }\nlink a:4 a:3;\nlink a:1 a:2;\n"},
	} {
		if s := topo.Text(x.n); s != x.want {
			t.Errorf("Text of %v is\n%s\nwant\n%s", x.n, s, x.want)
		}
	}
}

func TestP13_2Find(t *testing.T) {
	for i, name := range wide().Switches {
		if at := topo.Find(wide(), name); at != i {
			t.Errorf("%s is %d", name, at)
		}
	}
	for _, name := range []string{"", "a", "Switch", "switch ", " link", "links", "_", "_1_", "abcdefghijklmno", "abcdefghijklmnopq", "1", "switch link"} {
		if at := topo.Find(wide(), name); at != -1 {
			t.Errorf("%s is %d", name, at)
		}
		if at := topo.Find(api.Net{}, name); at != -1 {
			t.Errorf("%s is %d of none", name, at)
		}
	}
	// The first one of a name, also where the network may not be.
	odd := api.Net{Switches: []string{"x", "", "a", "if", "a", "", "x"}}
	for name, want := range map[string]int{"x": 0, "": 1, "a": 2, "if": 3, "b": -1} {
		if at := topo.Find(odd, name); at != want {
			t.Errorf("%s is %d", name, at)
		}
	}
}

func wantNext(t *testing.T, n api.Net, e, to api.End, there, linked bool) {
	t.Helper()
	gotTo, gotThere, gotLinked := topo.Next(n, e)
	if gotTo != to || gotThere != there || gotLinked != linked {
		t.Errorf("Next of %v of %v is %v, %v, %v", n, e, gotTo, gotThere, gotLinked)
	}
}

func TestP13_2Next(t *testing.T) {
	wantNext(t, small(), end(0, 2), end(1, 1), true, true)
	wantNext(t, small(), end(1, 1), end(0, 2), true, true)
	wantNext(t, small(), end(0, 1), api.End{}, true, false)
	for _, e := range []api.End{end(0, 3), end(0, 0), end(0, -1), end(1, 2), end(2, 1), end(-1, 1), end(-1, 2), end(math.MaxInt, 1), end(math.MinInt, 1), end(0, math.MaxInt), end(1, math.MinInt), {}} {
		wantNext(t, small(), e, api.End{}, false, false)
		wantNext(t, api.Net{}, e, api.End{}, false, false)
	}
	wantNext(t, wide(), end(1, 1), end(1, 2), true, true)
	wantNext(t, wide(), end(1, 2), end(1, 1), true, true)
	wantNext(t, wide(), end(3, 511), end(0, 511), true, true)
	wantNext(t, wide(), end(3, 510), api.End{}, true, false)
	wantNext(t, wide(), end(2, 1), api.End{}, false, false)
}

// Of all ends of networks by chance: what is reckoned by a map of them.
func TestP13_2NextOfAll(t *testing.T) {
	m := newMaker(133)
	for range 500 {
		n := m.net()
		other := map[api.End]api.End{}
		for _, l := range n.Links {
			other[l.A], other[l.B] = l.B, l.A
		}
		for at := -1; at <= 9; at++ {
			for _, p := range []int{-1, 0, 1, 2, 3, 254, 255, 256, 257, 509, 510, 511, 512, 1 + m.Intn(511)} {
				e := end(at, p)
				to, linked := other[e]
				there := at >= 0 && at < len(n.Ports) && slices.Contains(n.Ports[at], p)
				wantNext(t, n, e, to, there, linked)
			}
		}
	}
}

// Of a network that may not be: the first link that the end is in, of a port that is there.
func TestP13_2NextOfWhatMayNotBe(t *testing.T) {
	n := api.Net{
		Switches: []string{"a", "a"},
		Ports:    [][]int{{5, 1, 1, 0, -7, 900}, {1}, {1}},
		Links:    []api.Link{link(end(1, 1), end(9, 9)), link(end(0, 1), end(0, 1)), link(end(0, 5), end(1, 1)), link(end(0, 900), end(0, 5)), link(end(0, -7), end(3, 1)), link(end(2, 1), end(0, 0)), link(end(0, 8), end(0, 900))},
	}
	wantNext(t, n, end(1, 1), end(9, 9), true, true)
	wantNext(t, n, end(0, 1), end(0, 1), true, true)
	wantNext(t, n, end(0, 5), end(1, 1), true, true)
	wantNext(t, n, end(0, 900), end(0, 5), true, true)
	wantNext(t, n, end(0, -7), end(3, 1), true, true)
	wantNext(t, n, end(0, 0), end(2, 1), true, true)
	// Linked, but not there: no such port, no such switch, a list of ports of none.
	wantNext(t, n, end(0, 8), api.End{}, false, false)
	wantNext(t, n, end(9, 9), api.End{}, false, false)
	wantNext(t, n, end(3, 1), api.End{}, false, false)
	wantNext(t, n, end(2, 1), api.End{}, false, false)
	n.Ports = nil
	wantNext(t, n, end(0, 1), api.End{}, false, false)
}

func wantSame(t *testing.T, a, b api.Net, want bool) {
	t.Helper()
	if topo.Same(a, b) != want || topo.Same(b, a) != want {
		t.Errorf("Same of %v and %v is not %v", a, b, want)
	}
}

func TestP13_2Same(t *testing.T) {
	none := api.Net{Switches: []string{}, Ports: [][]int{}, Links: []api.Link{}}
	wantSame(t, api.Net{}, api.Net{}, true)
	wantSame(t, api.Net{}, none, true)
	wantSame(t, api.Net{Ports: [][]int{nil}}, api.Net{Ports: [][]int{{}}}, true)
	wantSame(t, api.Net{Ports: [][]int{nil}}, api.Net{}, false)
	for _, n := range []api.Net{small(), wide(), full()} {
		wantSame(t, n, copied(n), true)
		wantSame(t, n, api.Net{}, false)
		wantSame(t, n, none, false)
	}
	wantSame(t, small(), wide(), false)
	for _, x := range []turn{
		{"a name", func(n *api.Net) { n.Switches[1] = "Link" }},
		{"an empty name", func(n *api.Net) { n.Switches[3] = "" }},
		{"names in another order", func(n *api.Net) { slices.Reverse(n.Switches) }},
		{"a name less", func(n *api.Net) { n.Switches = n.Switches[:3] }},
		{"a name more", func(n *api.Net) { n.Switches = append(n.Switches, "") }},
		{"no names", func(n *api.Net) { n.Switches = nil }},
		{"a port", func(n *api.Net) { n.Ports[0][1] = 8 }},
		{"a port less", func(n *api.Net) { n.Ports[1] = n.Ports[1][:7] }},
		{"a port more", func(n *api.Net) { n.Ports[2] = []int{1} }},
		{"ports in another order", func(n *api.Net) { slices.Reverse(n.Ports[3]) }},
		{"lists of ports in another order", func(n *api.Net) { slices.Reverse(n.Ports) }},
		{"a list of ports less", func(n *api.Net) { n.Ports = n.Ports[:3] }},
		{"an empty one more", func(n *api.Net) { n.Ports = append(n.Ports, nil) }},
		{"no ports", func(n *api.Net) { n.Ports = nil }},
		{"a link's switch", func(n *api.Net) { n.Links[0].A.Switch++ }},
		{"a link's port", func(n *api.Net) { n.Links[0].A.Port-- }},
		{"a link's other switch", func(n *api.Net) { n.Links[2].B.Switch-- }},
		{"a link's other port", func(n *api.Net) { n.Links[2].B.Port++ }},
		{"a link turned round", func(n *api.Net) { n.Links[1].A, n.Links[1].B = n.Links[1].B, n.Links[1].A }},
		{"links in another order", func(n *api.Net) { slices.Reverse(n.Links) }},
		{"a link less", func(n *api.Net) { n.Links = n.Links[:2] }},
		{"a link more", func(n *api.Net) { n.Links = append(n.Links, api.Link{}) }},
		{"no links", func(n *api.Net) { n.Links = nil }},
	} {
		n := wide()
		x.change(&n)
		if topo.Same(n, wide()) || topo.Same(wide(), n) || !topo.Same(n, copied(n)) {
			t.Errorf("Same: %s", x.what)
		}
	}
}

// Two networks by chance, that may be or not, are the same just if all that there is of them is.
func TestP13_2SameOfAny(t *testing.T) {
	m := newMaker(134)
	told := map[bool]int{}
	for range 20000 {
		a := m.wild()
		b := copied(a)
		for range m.Intn(3) {
			m.spoil(&b)
		}
		want := spelt(a) == spelt(b)
		wantSame(t, a, b, want)
		told[want]++
	}
	if told[true] < 5000 || told[false] < 5000 {
		t.Errorf("told are %v", told)
	}
}

func TestP13_2ChangesNothing(t *testing.T) {
	n, odd := wide(), api.Net{Switches: []string{"b", "a"}, Ports: [][]int{{3, 1, 2}, {2, 1}}}
	topo.May(n)
	topo.May(odd)
	topo.Text(n)
	topo.Text(odd)
	topo.Next(odd, end(0, 2))
	topo.Find(odd, "a")
	topo.Same(n, odd)
	if !same(n, wide()) || !same(odd, api.Net{Switches: []string{"b", "a"}, Ports: [][]int{{3, 1, 2}, {2, 1}}}) {
		t.Errorf("changed to %v, %v", n, odd)
	}
}
