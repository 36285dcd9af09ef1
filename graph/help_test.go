package graph_test

import (
	"reflect"
	"slices"
	"strings"
	"testing"

	"quillon/api"
	"quillon/graph"
	"quillon/parse"
	"quillon/print"
	"quillon/sample"
)

// states are told by rows: a state's name, a colon, and its targets; one target is its To, more are those of cases.
func states(rows ...string) []api.State {
	var l []api.State
	for _, row := range rows {
		name, rest, _ := strings.Cut(row, ":")
		s := api.State{Name: name}
		if targets := strings.Fields(rest); len(targets) == 1 {
			s.To = targets[0]
		} else {
			s.Keys, s.Cases = []api.Expr{sample.Port()}, cases(targets...)
		}
		l = append(l, s)
	}
	return l
}

func cases(targets ...string) []api.Case {
	var l []api.Case
	for _, to := range targets {
		l = append(l, api.Case{Sets: []api.Set{{Kind: api.SetAny}}, To: to})
	}
	return l
}

// program has those states alone.
func program(rows ...string) api.Program { return api.Program{States: states(rows...)} }

// taking has headers a of 8, b of 16 and c of 24 bits, and states that take those that stand in [ ] behind their targets.
func taking(rows ...string) api.Program {
	p := api.Program{Headers: []api.Header{
		{Name: "a", Fields: []api.Field{{Name: "f", W: 8}}},
		{Name: "b", Fields: []api.Field{{Name: "f", W: 1}, {Name: "g", W: 15}}},
		{Name: "c", Fields: []api.Field{{Name: "f", W: 8}, {Name: "g", W: 9}, {Name: "h", W: 7}}},
	}}
	for _, row := range rows {
		row, takes, _ := strings.Cut(strings.TrimSuffix(row, "]"), "[")
		s := states(row)[0]
		s.Takes = strings.Fields(takes)
		p.States = append(p.States, s)
	}
	return p
}

func wantNext(t *testing.T, p api.Program, state int, want ...int) {
	t.Helper()
	if got := graph.Next(p, state); !slices.Equal(got, want) {
		t.Errorf("Next of %d is %v, want %v, of\n%s", state, got, want, told(p))
	}
}

func wantReached(t *testing.T, p api.Program, want ...bool) {
	t.Helper()
	if got := graph.Reached(p); !slices.Equal(got, want) {
		t.Errorf("Reached is %v, want %v, of\n%s", got, want, told(p))
	}
}

// wantCycle wants -1 where there is none.
func wantCycle(t *testing.T, p api.Program, want int) {
	t.Helper()
	n, is := graph.Cycle(p)
	if want < 0 && (n != 0 || is) || want >= 0 && (n != want || !is) {
		t.Errorf("Cycle is %d, %v, want %d, of\n%s", n, is, want, told(p))
	}
}

// wantOrder wants ErrCycle where there is no order.
func wantOrder(t *testing.T, p api.Program, want []int, wantErr api.Errno) {
	t.Helper()
	got, e := graph.Order(p)
	if !slices.Equal(got, want) || e != wantErr {
		t.Errorf("Order is %v, %d, want %v, %d, of\n%s", got, e, want, wantErr, told(p))
	}
}

func wantMost(t *testing.T, p api.Program, want int, wantErr api.Errno) {
	t.Helper()
	if got, e := graph.Most(p); got != want || e != wantErr {
		t.Errorf("Most is %d, %d, want %d, %d, of\n%s", got, e, want, wantErr, told(p))
	}
}

func wantCheck(t *testing.T, p api.Program, want int, wantErr api.Errno) {
	t.Helper()
	if got, e := graph.Check(p); got != want || e != wantErr {
		t.Errorf("Check is %d, %d, want %d, %d, of\n%s", got, e, want, wantErr, told(p))
	}
}

// told is a program's text, or of one that may not be how each state goes on.
func told(p api.Program) string {
	s := print.Program(p)
	if s != "" || len(p.States) > 100 {
		return s
	}
	for _, x := range p.States {
		s += x.Name + ": " + x.To + " |"
		for _, c := range x.Cases {
			s += " " + c.To
		}
		s += " [" + strings.Join(x.Takes, " ") + "]\n"
	}
	return s
}

func read(t *testing.T, s string) api.Program {
	t.Helper()
	p, _, f := parse.Program(s)
	if f != (api.Fault{}) {
		t.Fatalf("%v in\n%s", f, s)
	}
	return p
}

// wantSame wants that a call changes nothing in a program, of which again makes another one.
func wantSame(t *testing.T, p api.Program, again func() api.Program) {
	t.Helper()
	if !reflect.DeepEqual(p, again()) {
		t.Error("what was handed in is changed")
	}
}
