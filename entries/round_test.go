package entries_test

import (
	"slices"
	"strings"
	"testing"

	"quillon/api"
	"quillon/entries"
	"quillon/num"
)

// wantRound wants that entries, which may be, are written line by line, and that the text is read as the same.
func wantRound(t *testing.T, p api.Prog, switches []string, l [][]api.Entry) {
	t.Helper()
	s := entries.Text(p, switches, l)
	many := 0
	for n := range l {
		many += len(l[n])
		if !entries.May(p, l[n]) {
			t.Fatalf("may not be: %v", l[n])
		}
	}
	if strings.Count(s, "\n") != many || many > 0 && !strings.HasSuffix(s, "\n") {
		t.Errorf("not %d lines:\n%s", many, s)
	}
	if len(s) > api.MaxText {
		wantFaultAt(t, p, switches, s, 0, api.ErrLong)
		return
	}
	got, f := entries.Read(p, switches, s)
	if f != (api.Fault{}) || len(got) != len(l) || !same(got, l) {
		t.Errorf("%.2000s is read as %v, %v, want %v", s, got, f, l)
	}
	if again := entries.Text(p, switches, got); again != s {
		t.Errorf("%.2000s is written again as\n%.2000s", s, again)
	}
}

func TestP12_3Round(t *testing.T) {
	p := lowered(t, whole)
	wantRound(t, p, nil, nil)
	wantRound(t, p, ends(), make([][]api.Entry, 3))
	wantRound(t, p, ends(), [][]api.Entry{{full()}, {routed(192, 4, 0, 2)}, {routed(0, 0, 65536, 511), full()}})
	eight := []string{"__", "x", "prio", "t", "fwd", "no", "_1", "abcdefghijklmnop"}
	m := newMaker(124, p)
	for range 3000 {
		wantRound(t, p, ends(), m.lists(3, 6))
		wantRound(t, p, eight, m.lists(8, 2))
	}
}

// All tables' and actions' names that may be, also those that read as words of the text.
func TestP12_3Names(t *testing.T) {
	p := lowered(t, whole)
	p.Names.Tables = []string{"prio", "s1", "_1", "fwd", "w8"}
	p.Names.Actions = []string{"s1", "prio", "to", "x0", "abcdefghijklmnop"}
	m := newMaker(125, p)
	for range 500 {
		wantRound(t, p, ends(), m.lists(3, 6))
	}
}

func TestP12_3Widths(t *testing.T) {
	for w := 1; w <= 128; w++ {
		p := widthProg(t, w)
		m := newMaker(int64(w), p)
		for length := 0; length <= w; length++ {
			v := top(length, w)
			l := []api.Entry{{Tab: 1, Pats: pats(api.Pat{V: v, M: v}), Len: length}, {Tab: 2, Pats: pats(api.Pat{V: v, M: num.Mask(w)})}, {Tab: 2, Pats: pats(api.Pat{M: v})}, {Pats: pats(api.Pat{V: v, M: num.Mask(w)})}}
			wantRound(t, p, []string{"s1"}, [][]api.Entry{l})
		}
		for range 10 {
			wantRound(t, p, ends(), m.lists(3, 4))
		}
	}
}

// As many as may be, of texts that are short enough, and that are too long.
func TestP12_3Many(t *testing.T) {
	p := lowered(t, whole)
	eight := []string{"a", "b", "c", "d", "e", "f", "g", "abcdefghijklmnop"}
	wantRound(t, p, eight, slices.Repeat([][]api.Entry{slices.Repeat([]api.Entry{routed(192, 4, 0, 2)}, 64)}, 8))
	l := slices.Repeat([][]api.Entry{slices.Repeat([]api.Entry{full()}, 64)}, 8)
	wantRound(t, p, eight, l)
	if s := entries.Text(p, eight, l); len(s) <= api.MaxText || !strings.HasPrefix(s, "a."+fullText) {
		t.Errorf("the text has %d bytes", len(s))
	}
	eight[7] = "h"
	for _, bytes := range []int{api.MaxText - 1, api.MaxText, api.MaxText + 1} {
		l := ofBytes(bytes)
		if s := entries.Text(p, eight, l); len(s) != bytes {
			t.Fatalf("the text has %d bytes, want %d", len(s), bytes)
		}
		wantRound(t, p, eight, l)
	}
}

// ofBytes are the entries of eight switches, of one letter each, whose text has so many bytes: some have a priority of more digits.
func ofBytes(bytes int) [][]api.Entry {
	l := make([][]api.Entry, 8)
	e := full()
	e.Prio = 0
	line := len("a.") + len(fullText) - len("7")
	lack := bytes % line
	for n := range bytes / line {
		e.Prio = 0
		for ; lack > 0 && e.Prio < 10000; lack-- {
			e.Prio = max(10*e.Prio, 10)
		}
		l[n/64] = append(l[n/64], copied(e))
	}
	return l
}

// Whether entries that are not the same have not the same text.
func TestP12_3Apart(t *testing.T) {
	p := lowered(t, whole)
	m := newMaker(126, p)
	seen := map[string][]api.Entry{}
	for range 5000 {
		l := m.list(1 + m.Intn(2))
		s := entries.Text(p, []string{"s"}, [][]api.Entry{l})
		if old, is := seen[s]; is && !entries.Same(old, l) {
			t.Errorf("%v and %v are both %s", old, l, s)
		}
		seen[s] = l
	}
}
