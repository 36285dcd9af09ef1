package lower_test

import (
	"math/big"
	"math/rand"
	"strconv"
	"strings"
	"testing"

	"quillon/api"
	"quillon/lower"
	"quillon/num"
	"quillon/print"
	"quillon/types"
)

// A world is what a program runs on, and a log of all that it does there, in its order.
type world struct {
	port   int64
	tape   []*big.Int // what headers' fields are taken from, again and again
	taken  int
	valid  []bool
	fields [][]*big.Int
	metas  []*big.Int
	log    []string
}

func newWorld(r *rand.Rand, p api.Program) *world {
	w := &world{port: int64(r.Intn(6))}
	for range 50 {
		n := new(big.Int).Rand(r, new(big.Int).Lsh(big.NewInt(1), uint(1+r.Intn(128))))
		w.tape = append(w.tape, n)
	}
	for _, h := range p.Headers {
		w.valid = append(w.valid, r.Intn(3) > 0)
		var l []*big.Int
		for _, f := range h.Fields {
			l = append(l, w.next(f.W))
		}
		w.fields = append(w.fields, l)
	}
	for _, f := range p.Metas {
		w.metas = append(w.metas, w.next(f.W))
	}
	return w
}

// copied is another one that is alike, of which nothing was done.
func (w *world) copied() *world {
	c := *w
	c.valid, c.metas, c.fields, c.log = append([]bool(nil), w.valid...), append([]*big.Int(nil), w.metas...), nil, nil
	for _, l := range w.fields {
		c.fields = append(c.fields, append([]*big.Int(nil), l...))
	}
	return &c
}

func (w *world) next(bits int) *big.Int {
	w.taken++
	return cut(w.tape[w.taken%len(w.tape)], bits)
}

func cut(n *big.Int, bits int) *big.Int {
	return new(big.Int).Mod(n, new(big.Int).Lsh(big.NewInt(1), uint(bits)))
}

func (w *world) does(l ...any) {
	s := ""
	for _, x := range l {
		switch x := x.(type) {
		case string:
			s += x
		case int:
			s += " " + strconv.Itoa(x)
		case *big.Int:
			s += " " + x.String()
		}
	}
	w.log = append(w.log, s)
}

// ended is all that was done, and how all is then.
func (w *world) ended() string {
	w.does("end", w.taken)
	for h, l := range w.fields {
		if !w.valid[h] {
			w.does("invalid", h)
		}
		for _, n := range l {
			w.does("", n)
		}
	}
	for _, n := range w.metas {
		w.does("", n)
	}
	return strings.Join(w.log, "\n")
}

func (w *world) read(h, f int) *big.Int {
	w.does("read", h, f)
	if !w.valid[h] {
		return new(big.Int)
	}
	return w.fields[h][f]
}

func (w *world) write(h, f int, n *big.Int) {
	w.does("write", h, f, n)
	if w.valid[h] {
		w.fields[h][f] = n
	}
}

func (w *world) make(h int, on bool) {
	w.does("make", h, strconv.FormatBool(on))
	if w.valid[h] && on {
		return
	}
	w.valid[h] = on
	for f := range w.fields[h] {
		w.fields[h][f] = new(big.Int)
	}
}

// take is false, if the header is valid already.
func (w *world) take(h int, widths []int) bool {
	w.does("take", h)
	if w.valid[h] {
		return false
	}
	w.valid[h] = true
	for f, bits := range widths {
		w.fields[h][f] = w.next(bits)
	}
	return true
}

func bigOf(n api.Num) *big.Int { return new(big.Int).SetBytes(num.Bytes(n, 16)) }

func bigOfBool(is bool) *big.Int {
	if is {
		return big.NewInt(1)
	}
	return new(big.Int)
}

// compute is what a sign makes of one or two, before it is cut; bits are the second one's.
func compute(op uint8, a, b *big.Int, bits int) *big.Int {
	n := new(big.Int)
	switch op {
	case api.ExCat:
		return n.Add(n.Lsh(a, uint(bits)), b)
	case api.ExAdd:
		return n.Add(a, b)
	case api.ExSub:
		return n.Sub(a, b)
	case api.ExAnd, api.ExBoth:
		return n.And(a, b)
	case api.ExXor:
		return n.Xor(a, b)
	case api.ExOr, api.ExAny:
		return n.Or(a, b)
	case api.ExEq:
		return bigOfBool(a.Cmp(b) == 0)
	case api.ExNe:
		return bigOfBool(a.Cmp(b) != 0)
	case api.ExLt:
		return bigOfBool(a.Cmp(b) < 0)
	case api.ExLe:
		return bigOfBool(a.Cmp(b) <= 0)
	case api.ExGt:
		return bigOfBool(a.Cmp(b) > 0)
	}
	return bigOfBool(a.Cmp(b) >= 0)
}

// A walker runs a program as a tree.
type walker struct {
	*world
	p      api.Program
	action int
	args   []*big.Int
}

func (w *walker) bits(e api.Expr, asked int) int {
	return (&writer{p: w.p, action: w.action}).bits(e, asked)
}

func (w *walker) value(e api.Expr, asked int) *big.Int {
	bits := w.bits(e, asked)
	switch e.Op {
	case api.ExLit:
		return bigOf(e.Lit.N)
	case api.ExField:
		h := index(w.p.Headers, headerName, e.Head)
		return w.read(h, index(w.p.Headers[h].Fields, fieldName, e.Name))
	case api.ExMeta:
		return w.metas[index(w.p.Metas, fieldName, e.Name)]
	case api.ExParam:
		return w.args[index(w.p.Actions[w.action].Params, fieldName, e.Name)]
	case api.ExPort:
		return big.NewInt(w.port)
	case api.ExValid:
		return bigOfBool(w.valid[index(w.p.Headers, headerName, e.Head)])
	}
	if len(e.Args) == 2 {
		asked = max(w.bits(e.Args[0], 0), w.bits(e.Args[1], 0))
	}
	a, n := w.value(e.Args[0], asked), new(big.Int)
	switch e.Op {
	case api.ExNot, api.ExBang:
		return cut(n.Not(a), bits)
	case api.ExNeg:
		return cut(n.Neg(a), bits)
	case api.ExSlice:
		return cut(n.Rsh(a, uint(e.Lo)), bits)
	case api.ExShl:
		return cut(n.Lsh(a, uint(e.Args[1].Lit.N.Lo)), bits)
	case api.ExShr:
		return n.Rsh(a, uint(e.Args[1].Lit.N.Lo))
	}
	return cut(compute(e.Op, a, w.value(e.Args[1], asked), w.bits(e.Args[1], 0)), bits)
}

// is looks at no more of a condition than it needs.
func (w *walker) is(e api.Expr) bool {
	switch e.Op {
	case api.ExBang:
		return !w.is(e.Args[0])
	case api.ExBoth:
		return w.is(e.Args[0]) && w.is(e.Args[1])
	case api.ExAny:
		return w.is(e.Args[0]) || w.is(e.Args[1])
	}
	return w.value(e, 0).Sign() > 0
}

func (w *walker) block(l []api.Stmt) {
	for _, s := range l {
		w.stmt(s)
	}
}

func (w *walker) stmt(s api.Stmt) {
	h := index(w.p.Headers, headerName, s.Head)
	switch s.Kind {
	case api.StSet:
		if s.Head == "" {
			n := index(w.p.Metas, fieldName, s.Name)
			w.metas[n] = w.value(s.E, w.p.Metas[n].W)
			w.does("set", n, w.metas[n])
			return
		}
		f := index(w.p.Headers[h].Fields, fieldName, s.Name)
		w.write(h, f, w.value(s.E, w.p.Headers[h].Fields[f].W))
	case api.StIf:
		if w.is(s.E) {
			w.block(s.Then)
		} else {
			w.block(s.Else)
		}
	case api.StApply:
		x := w.p.Tables[index(w.p.Tables, tableName, s.Name)]
		for _, k := range x.Keys {
			w.does("key", w.value(k.E, 0))
		}
		var args []*big.Int
		for _, l := range x.Default.Args {
			args = append(args, bigOf(l.N))
		}
		n := index(w.p.Actions, actionName, x.Default.Name)
		(&walker{w.world, w.p, n, args}).block(w.p.Actions[n].Body)
	case api.StDrop:
		w.does("drop")
	case api.StForward:
		w.does("forward", cut(w.value(s.E, 9), 9))
	case api.StValid, api.StInvalid:
		w.make(h, s.Kind == api.StValid)
	}
}

// parse tells whether it accepts.
func (w *walker) parse() bool {
	name := w.p.States[0].Name
	for name != "accept" && name != "reject" {
		s := w.p.States[index(w.p.States, nameOfState, name)]
		for _, head := range s.Takes {
			h := index(w.p.Headers, headerName, head)
			var widths []int
			for _, f := range w.p.Headers[h].Fields {
				widths = append(widths, f.W)
			}
			if !w.take(h, widths) {
				return false
			}
		}
		if name = s.To; name == "" {
			name = w.choose(s)
		}
	}
	return name == "accept"
}

func (w *walker) choose(s api.State) string {
	var keys []*big.Int
	for _, k := range s.Keys {
		keys = append(keys, w.value(k, 0))
	}
	for _, c := range s.Cases {
		all := true
		for i, x := range c.Sets {
			v, m, k := bigOf(x.V.N), bigOf(x.M.N), keys[i]
			switch x.Kind {
			case api.SetOne:
				all = all && v.Cmp(k) == 0
			case api.SetMask:
				all = all && m.And(m, v.Xor(v, k)).Sign() == 0
			}
		}
		if all {
			return c.To
		}
	}
	return "reject"
}

// A runner runs a lowered program, as layers 21 and 22 have it.
type runner struct {
	*world
	p    api.Prog
	args []*big.Int
}

func (r *runner) value(c api.Code) *big.Int {
	signs := map[uint8]uint8{api.OpCat: api.ExCat, api.OpAdd: api.ExAdd, api.OpSub: api.ExSub, api.OpAnd: api.ExAnd, api.OpXor: api.ExXor, api.OpOr: api.ExOr, api.OpEq: api.ExEq, api.OpLt: api.ExLt, api.OpLe: api.ExLe}
	var stack []*big.Int
	var widths []int
	for _, x := range c {
		n, top := new(big.Int), len(stack)-1
		takes := 1
		switch x.Op {
		case api.OpConst:
			n, takes = bigOf(x.V), 0
		case api.OpField:
			n, takes = r.read(x.A, x.B), 0
		case api.OpMeta:
			n, takes = r.metas[x.A], 0
		case api.OpParam:
			n, takes = r.args[x.A], 0
		case api.OpPort:
			n, takes = big.NewInt(r.port), 0
		case api.OpValid:
			n, takes = bigOfBool(r.valid[x.A]), 0
		case api.OpNot:
			n.Not(stack[top])
		case api.OpNeg:
			n.Neg(stack[top])
		case api.OpSlice:
			n.Rsh(stack[top], uint(x.B))
		case api.OpShl:
			n.Lsh(stack[top], uint(x.A))
		case api.OpShr:
			n.Rsh(stack[top], uint(x.A))
		default:
			n, takes = compute(signs[x.Op], stack[top-1], stack[top], widths[top]), 2
		}
		stack = append(stack[:len(stack)-takes], cut(n, x.W))
		widths = append(widths[:len(widths)-takes], x.W)
	}
	return stack[0]
}

func (r *runner) run(l []api.Inst) {
	for at := 0; at < len(l); {
		x := l[at]
		at++
		switch x.Kind {
		case api.InSet:
			r.write(x.A, x.B, r.value(x.E))
		case api.InMeta:
			r.metas[x.A] = r.value(x.E)
			r.does("set", x.A, r.metas[x.A])
		case api.InApply:
			t := r.p.Tabs[x.A]
			for _, k := range t.Keys {
				r.does("key", r.value(k))
			}
			var args []*big.Int
			for _, n := range t.Default.Args {
				args = append(args, bigOf(n))
			}
			(&runner{r.world, r.p, args}).run(r.p.Acts[t.Default.Act].Body)
		case api.InDrop:
			r.does("drop")
		case api.InForward:
			r.does("forward", r.value(x.E))
		case api.InValid:
			r.make(x.A, x.B == 1)
		case api.InIf:
			if r.value(x.E).Sign() == 0 {
				at = x.To
			}
		case api.InJump:
			at = x.To
		}
	}
}

// parse tells whether it accepts.
func (r *runner) parse() bool {
	at := 0
	for at >= 0 {
		s := r.p.Steps[at]
		for _, h := range s.Takes {
			if !r.take(h, r.p.Heads[h]) {
				return false
			}
		}
		at = s.To
		if len(s.Keys) > 0 {
			at = r.choose(s)
		}
	}
	return at == api.ToAccept
}

func (r *runner) choose(s api.Step) int {
	var keys []*big.Int
	for _, k := range s.Keys {
		keys = append(keys, r.value(k))
	}
	for _, b := range s.Branches {
		all := true
		for i, x := range b.Pats {
			all = all && new(big.Int).And(keys[i], bigOf(x.M)).Cmp(bigOf(x.V)) == 0
		}
		if all {
			return b.To
		}
	}
	return api.ToReject
}

// What a program is lowered to does what it does as a tree: it reads and writes the same, in the same order.
func TestP10_1Meaning(t *testing.T) {
	m := maker{rand.New(rand.NewSource(15)), typed(t)}
	done := map[string]int{}
	for range 1500 {
		p := m.newProgram()
		l := lowered(t, p)
		for range 4 {
			one := newWorld(m.Rand, p)
			two := one.copied()
			tree, flat := &walker{one, p, -1, nil}, &runner{two, l, nil}
			wantEnds(t, p, one, two, func() {
				tree.block(p.Control)
				flat.run(l.Control)
			})
			for _, w := range []*world{one, two} {
				clear(w.valid)
			}
			wantEnds(t, p, one, two, func() {
				if tree.parse() != flat.parse() {
					t.Errorf("one accepts, the other one does not, of\n%s", print.Program(p))
				}
			})
			for _, s := range one.log {
				word, _, _ := strings.Cut(s, " ")
				done[word]++
			}
		}
	}
	for _, what := range []string{"read", "write", "make", "take", "set", "key", "drop", "forward", "invalid"} {
		if done[what] < 500 {
			t.Errorf("%s was done %d times", what, done[what])
		}
	}
}

func wantEnds(t *testing.T, p api.Program, one, two *world, run func()) {
	t.Helper()
	run()
	if a, b := one.ended(), two.ended(); a != b {
		t.Fatalf("as a tree\n%s\nlowered\n%s\nof\n%s", a, b, print.Program(p))
	}
}

// A predicate's code has the value of the expression, all of which is looked at.
func TestP10_2Meaning(t *testing.T) {
	m := maker{rand.New(rand.NewSource(16)), typed(t)}
	l := lowered(t, m.p)
	values := map[int]int{}
	for range 5000 {
		e := m.of(-1).Truth(m.Intn(6))
		if x, _ := types.Of(m.p, -1, e); !x.Truth {
			t.Fatalf("no truth: %s", print.Expr(e))
		}
		c, err := lower.Pred(m.p, e)
		if err != api.OK {
			t.Fatalf("%d of %s", err, print.Expr(e))
		}
		one := newWorld(m.Rand, m.p)
		two := one.copied()
		a, b := (&walker{one, m.p, -1, nil}).value(e, 0), (&runner{two, l, nil}).value(c)
		if a.Cmp(b) != 0 || one.ended() != two.ended() {
			t.Fatalf("%v, %v of %s", a, b, print.Expr(e))
		}
		values[int(a.Int64())]++
	}
	if values[0] < 1000 || values[1] < 1000 || len(values) != 2 {
		t.Errorf("values are %v", values)
	}
}
