package topo_test

import (
	"math/rand"
	"slices"
	"strconv"
	"strings"
	"testing"

	"quillon/api"
	"quillon/sample"
	"quillon/text"
	"quillon/topo"
)

func end(at, port int) api.End { return api.End{Switch: at, Port: port} }

func link(a, b api.End) api.Link { return api.Link{A: a, B: b} }

// small is the chapter's first example.
func small() api.Net {
	return api.Net{
		Switches: []string{"a", "b"},
		Ports:    [][]int{{1, 2}, {1}},
		Links:    []api.Link{link(end(0, 2), end(1, 1))},
	}
}

const smallText = "switch a { 1; 2; }\nswitch b { 1; }\nlink a:2 b:1;\n"

// wide is a network with a switch without ports, one that is linked to itself, both of the text's words as names, and ends that are not linked.
func wide() api.Net {
	return api.Net{
		Switches: []string{"switch", "link", "_1", "abcdefghijklmnop"},
		Ports:    [][]int{{1, 7, 511}, {1, 2, 3, 4, 5, 6, 7, 8}, nil, {510, 511}},
		Links:    []api.Link{link(end(1, 8), end(0, 1)), link(end(1, 2), end(1, 1)), link(end(0, 511), end(3, 511))},
	}
}

const wideText = `switch switch { 1; 7; 511; }
switch link { 1; 2; 3; 4; 5; 6; 7; 8; }
switch _1 { }
switch abcdefghijklmnop { 510; 511; }
link link:8 switch:1;
link link:2 link:1;
link switch:511 abcdefghijklmnop:511;
`

// full is as great as one may be: 8 switches of 8 ports, all of them linked.
func full() api.Net {
	var n api.Net
	for i := range 8 {
		n.Switches = append(n.Switches, "s"+strconv.Itoa(i))
		n.Ports = append(n.Ports, []int{1, 2, 3, 4, 508, 509, 510, 511})
	}
	for i := range 4 {
		for _, p := range n.Ports[i] {
			n.Links = append(n.Links, link(end(i, p), end(7-i, p)))
		}
	}
	return n
}

// copied is a network in other memory.
func copied(n api.Net) api.Net {
	n.Switches, n.Links = slices.Clone(n.Switches), slices.Clone(n.Links)
	ports := make([][]int, len(n.Ports))
	for i, l := range n.Ports {
		ports[i] = slices.Clone(l)
	}
	n.Ports = ports
	return n
}

// isNothing tells whether a network has nothing at all.
func isNothing(n api.Net) bool { return n.Switches == nil && n.Ports == nil && n.Links == nil }

func wantRead(t *testing.T, s string, want api.Net) {
	t.Helper()
	got, f := topo.Read(s)
	if f != (api.Fault{}) || !same(got, want) {
		t.Errorf("Read of %.1000q is %v, %v, want %v", s, got, f, want)
	}
	if !topo.May(got) {
		t.Errorf("what Read tells of %.1000q may not be: %v", s, got)
	}
}

// same is Same reckoned in another way: of all that there is, written.
func same(a, b api.Net) bool { return spelt(a) == spelt(b) }

func spelt(n api.Net) string {
	var b strings.Builder
	for _, s := range n.Switches {
		b.WriteString(strconv.Quote(s))
	}
	for _, l := range n.Ports {
		b.WriteString("|")
		for _, p := range l {
			b.WriteString(" " + strconv.Itoa(p))
		}
	}
	for _, l := range n.Links {
		b.WriteString(";")
		for _, e := range []api.End{l.A, l.B} {
			b.WriteString(" " + strconv.Itoa(e.Switch) + ":" + strconv.Itoa(e.Port))
		}
	}
	return b.String()
}

// wantFault wants the error where the @ stands, and nothing beside it.
func wantFault(t *testing.T, e api.Errno, texts ...string) {
	t.Helper()
	for _, s := range texts {
		spot, at, is := sample.Spot(s)
		if !is {
			t.Fatalf("not one @ in %.500q", s)
		}
		got, f := topo.Read(spot)
		if want := text.Fault(spot, at, e); f != want || !isNothing(got) {
			t.Errorf("Read of %.1000q is %v, %v, want %v", spot, got, f, want)
		}
	}
}

// A maker makes networks, and texts, by chance, always the same ones.
type maker struct{ *rand.Rand }

func newMaker(seed int64) maker { return maker{rand.New(rand.NewSource(seed))} }

func (m maker) pick(l ...int) int { return l[m.Intn(len(l))] }

// net may be. Its ports are often those of another switch too.
func (m maker) net() api.Net {
	var n api.Net
	var free []api.End
	names := strings.Fields("a b switch link _1 s1 prio abcdefghijklmnop A __")
	for i, at := range m.Perm(len(names))[:m.Intn(9)] {
		n.Switches = append(n.Switches, names[at])
		var l []int
		for range m.Intn(9) {
			l = append(l, m.pick(1, 2, 3, 255, 256, 510, 511, 1+m.Intn(511)))
		}
		slices.Sort(l)
		l = slices.Compact(l)
		n.Ports = append(n.Ports, l)
		for _, p := range l {
			free = append(free, end(i, p))
		}
	}
	m.Shuffle(len(free), func(i, j int) { free[i], free[j] = free[j], free[i] })
	for range m.Intn(len(free)/2 + 1) {
		n.Links = append(n.Links, link(free[0], free[1]))
		free = free[2:]
	}
	return n
}

// text is of a network that may be: its ports in any order, numbers in hex, and noughts ahead.
func (m maker) text(n api.Net) string {
	s := ""
	for i, name := range n.Switches {
		s += "switch " + name + "{"
		for _, at := range m.Perm(len(n.Ports[i])) {
			s += m.number(n.Ports[i][at]) + ";"
		}
		s += "}"
	}
	for _, l := range n.Links {
		s += "link " + m.end(n, l.A) + " " + m.end(n, l.B) + ";"
	}
	return s
}

func (m maker) end(n api.Net, e api.End) string {
	return n.Switches[e.Switch] + ":" + m.number(e.Port)
}

func (m maker) number(n int) string {
	switch m.Intn(4) {
	case 0:
		return "0x" + strconv.FormatInt(int64(n), 16)
	case 1:
		return "00" + strconv.Itoa(n)
	}
	return strconv.Itoa(n)
}

// wild is a network that mostly may not be: one that may, with some of its parts by others.
func (m maker) wild() api.Net {
	n := m.net()
	for range m.Intn(3) {
		m.spoil(&n)
	}
	return n
}

func (m maker) spoil(n *api.Net) {
	number := m.pick(-1<<63, -1, 0, 1, 2, 3, 8, 9, 511, 512, 1<<63-1)
	switch m.Intn(9) {
	case 0:
		n.Switches = append(n.Switches, []string{"a", "switch", "b", "if", "", "1", "x y"}[m.Intn(7)])
	case 1:
		n.Ports = append(n.Ports, []int{1, 2})
	case 2:
		n.Switches, n.Ports = append(n.Switches, "new"), append(n.Ports, []int{number})
	case 3:
		if len(n.Ports) > 0 {
			n.Ports = n.Ports[1:]
		}
	case 4:
		if i := m.Intn(len(n.Ports) + 1); i < len(n.Ports) {
			n.Ports[i] = append(n.Ports[i], number)
		}
	case 5:
		if i := m.Intn(len(n.Ports) + 1); i < len(n.Ports) {
			slices.Reverse(n.Ports[i])
		}
	case 6:
		n.Links = append(n.Links, link(end(m.Intn(3), 1), end(m.Intn(3), m.pick(1, 2))))
	case 7:
		n.Links = append(n.Links, link(end(number, 1), end(0, number)))
	case 8:
		if len(n.Links) > 0 {
			n.Links[m.Intn(len(n.Links))].B.Port = number
		}
	}
}
