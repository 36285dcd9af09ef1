package graph_test

import (
	"math/rand"
	"slices"
	"testing"

	"quillon/api"
	"quillon/ast"
	"quillon/parse"
	"quillon/print"
	"quillon/resolve"
)

// A table tells of each two states whether the first one goes to the second one, and whether it does so going on and on.
type table struct {
	next      [][]int // in their order
	goes, far [][]bool
}

func tableOf(p api.Program) table {
	n := len(p.States)
	t := table{next: make([][]int, n), goes: square(n), far: square(n)}
	first := map[string]int{}
	for i := n - 1; i >= 0; i-- {
		first[p.States[i].Name] = i
	}
	first["accept"], first["reject"] = -1, -1
	for i, s := range p.States {
		targets := []string{}
		if s.To != "" {
			targets = append(targets, s.To)
		}
		for _, c := range s.Cases {
			targets = append(targets, c.To)
		}
		for _, to := range targets {
			if j, is := first[to]; is && j >= 0 && !t.goes[i][j] {
				t.next[i] = append(t.next[i], j)
				t.goes[i][j], t.far[i][j] = true, true
			}
		}
	}
	for k := range n {
		for i := range n {
			for j := range n {
				t.far[i][j] = t.far[i][j] || t.far[i][k] && t.far[k][j]
			}
		}
	}
	return t
}

func square(n int) [][]bool {
	l := make([][]bool, n)
	for i := range l {
		l[i] = make([]bool, n)
	}
	return l
}

func (t table) reached() []bool {
	l := make([]bool, len(t.far))
	for i := range l {
		l[i] = i == 0 || t.far[0][i]
	}
	return l
}

// cycle is -1 where there is none.
func (t table) cycle() int {
	for i := range t.far {
		if t.far[i][i] {
			return i
		}
	}
	return -1
}

// order is for one without a cycle.
func (t table) order() []int {
	var l []int
	for len(l) < len(t.goes) {
		for j := range t.goes {
			waits := false
			for i := range t.goes {
				waits = waits || t.goes[i][j] && !slices.Contains(l, i)
			}
			if !waits && !slices.Contains(l, j) {
				l = append(l, j)
				break
			}
		}
	}
	return l
}

// most goes all ways from a state on, one by one; ahead is what was taken on the way there.
func (t table) most(p api.Program, n, ahead int) int {
	for _, name := range p.States[n].Takes {
		i := slices.IndexFunc(p.Headers, func(h api.Header) bool { return h.Name == name })
		if i >= 0 {
			for _, f := range p.Headers[i].Fields {
				ahead += f.W
			}
		}
	}
	greatest := ahead
	for _, m := range t.next[n] {
		greatest = max(greatest, t.most(p, m, ahead))
	}
	return greatest
}

// wantAll holds all of a program's answers against the table's; it tells the first state that is on a cycle, or -1.
func wantAll(t *testing.T, p api.Program) int {
	t.Helper()
	x := tableOf(p)
	for n := range p.States {
		wantNext(t, p, n, x.next[n]...)
	}
	wantReached(t, p, x.reached()...)
	cycle := x.cycle()
	wantCycle(t, p, cycle)
	if cycle >= 0 {
		wantOrder(t, p, nil, api.ErrCycle)
		wantMost(t, p, 0, api.ErrCycle)
		is := func(it api.Item) bool { return it.Kind == api.ItState && it.A == cycle }
		wantCheck(t, p, slices.IndexFunc(resolve.Items(p), is), api.ErrCycle)
		return cycle
	}
	wantOrder(t, p, x.order(), api.OK)
	most := 0
	if len(p.States) > 0 {
		most = x.most(p, 0, 0)
	}
	wantMost(t, p, most, api.OK)
	wantCheck(t, p, len(resolve.Items(p)), api.OK)
	return cycle
}

// graphOf has n states: the bit i*n+j tells whether the state i goes to the state j.
func graphOf(n, bits int) api.Program {
	p := taking()
	for i := range n {
		s := api.State{Name: string(rune('s' + i)), To: "accept", Takes: []string{"nobody", "a", "b", "c"}[i : i+1]}
		for j := range n {
			if bits>>(i*n+j)&1 == 1 {
				s.To, s.Cases = "", append(s.Cases, cases(string(rune('s'+j)))...)
			}
		}
		p.States = append(p.States, s)
	}
	return p
}

func TestP9_1_P9_2AllSmallGraphs(t *testing.T) {
	met := map[int]int{}
	for n := range 5 {
		for bits := range 1 << (n * n) {
			met[wantAll(t, graphOf(n, bits))]++
		}
	}
	// So many graphs of 0, 1, 2, 3 and 4 states have no cycle.
	if met[-1] != 1+1+3+25+543 {
		t.Errorf("met are %v", met)
	}
}

// anyOf are up to so many, at random.
func anyOf(r *rand.Rand, most int, l ...string) []string {
	var some []string
	for range r.Intn(most + 1) {
		some = append(some, l[r.Intn(len(l))])
	}
	return some
}

// anyState is mostly one that goes to some of those ahead alone, or there would be cycles nearly everywhere.
func anyState(r *rand.Rand, name string, ahead, all []string) api.State {
	s := api.State{Name: name, Takes: anyOf(r, 3, "a", "b", "c", "nobody")}
	if r.Intn(20) == 0 {
		s.Name = []string{"s", "t", "", "accept", "reject"}[r.Intn(5)]
	}
	pool := append([]string{"accept", "reject", "nobody"}, ahead...)
	if r.Intn(12) == 0 {
		pool = all
	}
	if r.Intn(3) > 0 {
		s.Cases = cases(anyOf(r, 5, pool...)...)
	}
	if r.Intn(3) == 0 {
		s.To = pool[r.Intn(len(pool))]
	}
	return s
}

// Programs that may, or may not be, at random, always the same ones: names that are there twice or not at all, a To beside cases, none of both, widths below 0.
func TestP9_1_P9_2AnyPrograms(t *testing.T) {
	r := rand.New(rand.NewSource(9))
	names := []string{"s", "t", "u", "v", "w", "x", "y", "z"}
	met, texts := map[int]int{}, 0
	for range 40000 {
		p := taking()
		p.Metas = []api.Field{{Name: "m", W: 1}, {Name: "m", W: 2}}[:r.Intn(3)]
		p.Control = []api.Stmt{{Kind: api.StDrop}}
		p.Headers[r.Intn(3)].Fields[0].W = r.Intn(64) - 24
		if r.Intn(8) == 0 {
			p.Headers[2].Name = "a"
		}
		for i := range r.Intn(9) {
			p.States = append(p.States, anyState(r, names[i], names[i+1:], names))
		}
		r.Shuffle(len(p.States), func(i, j int) { p.States[i], p.States[j] = p.States[j], p.States[i] })
		met[wantAll(t, p)]++
		texts += wantText(t, p)
	}
	if met[-1] < 10000 || len(met) < 8 || texts < 1000 {
		t.Errorf("met are %v, and %d texts", met, texts)
	}
}

// wantText: what a program's text means it means itself. It tells 0, if the program may not be.
func wantText(t *testing.T, p api.Program) int {
	t.Helper()
	for i := range p.States {
		if len(p.States[i].Cases) > 0 {
			p.States[i].Keys = []api.Expr{{Op: api.ExPort}}
		}
	}
	if !ast.May(p) {
		return 0
	}
	again, _, f := parse.Program(print.Program(p))
	if f != (api.Fault{}) {
		t.Fatalf("%v in\n%s", f, print.Program(p))
	}
	wantAll(t, again)
	return 1
}
