package topo_test

import (
	"strings"
	"testing"

	"quillon/api"
	"quillon/topo"
)

// wantRound wants that a network, which may be, is written line by line, and that the text is read as the same.
func wantRound(t *testing.T, n api.Net) string {
	t.Helper()
	if !topo.May(n) {
		t.Fatalf("may not be: %v", n)
	}
	s := topo.Text(n)
	lines := len(n.Switches) + len(n.Links)
	if strings.Count(s, "\n") != lines || lines > 0 && !strings.HasSuffix(s, "\n") {
		t.Errorf("not %d lines:\n%s", lines, s)
	}
	got, f := topo.Read(s)
	if f != (api.Fault{}) || !same(got, n) || !topo.Same(got, n) {
		t.Errorf("%s is read as %v, %v, want %v", s, got, f, n)
	}
	if again := topo.Text(got); again != s {
		t.Errorf("%s is written again as\n%s", s, again)
	}
	return s
}

// wantWayBack wants of all ends that are linked that the other end of the other end is the first one.
func wantWayBack(t *testing.T, n api.Net) {
	t.Helper()
	many := 0
	for at, l := range n.Ports {
		for _, p := range l {
			to, there, linked := topo.Next(n, end(at, p))
			if !there {
				t.Errorf("%d:%d of %v is not there", at, p, n)
			}
			if !linked {
				continue
			}
			many++
			back, isThere, isLinked := topo.Next(n, to)
			if back != end(at, p) || !isThere || !isLinked || to == back {
				t.Errorf("behind %d:%d of %v is %v, behind that %v", at, p, n, to, back)
			}
		}
	}
	if many != 2*len(n.Links) {
		t.Errorf("%d ends of %v are linked", many, n)
	}
}

func TestP13_3Round(t *testing.T) {
	for _, n := range []api.Net{{}, small(), wide(), full()} {
		wantRound(t, n)
		wantWayBack(t, n)
	}
	m := newMaker(135)
	seen := map[string]string{}
	for range 10000 {
		n := m.net()
		s := wantRound(t, n)
		wantWayBack(t, n)
		// Networks that are not the same have not the same text.
		if old, is := seen[s]; is && old != spelt(n) {
			t.Errorf("%s and %s are both %s", old, spelt(n), s)
		}
		seen[s] = spelt(n)
		// A text in other words is of the same one.
		if got, f := topo.Read(m.text(n)); f != (api.Fault{}) || !topo.Same(got, n) {
			t.Errorf("%v is read as %v, %v", n, got, f)
		}
	}
}

// The longest text that there is has room by far.
func TestP13_3LongestText(t *testing.T) {
	n := full()
	for i := range n.Switches {
		n.Switches[i] = "abcdefghijklmno" + n.Switches[i][1:]
		n.Ports[i] = []int{504, 505, 506, 507, 508, 509, 510, 511}
	}
	n.Links = nil
	for i := range 4 {
		for _, p := range n.Ports[i] {
			n.Links = append(n.Links, link(end(i, p), end(7-i, p)))
		}
	}
	if s := wantRound(t, n); len(s) > api.MaxText/10 {
		t.Errorf("the text has %d bytes", len(s))
	}
	wantWayBack(t, n)
}
