package lower_test

import (
	"slices"
	"strconv"
	"strings"
	"testing"

	"quillon/api"
	"quillon/num"
	"quillon/types"
)

// A writer writes what told, and so on, tell of what a tree is lowered to, word for word as the chapter has it; it asks layer 8 for the type of each expression.
type writer struct {
	p      api.Program
	action int
	lines  []line
	labels []int // the place of each one, once it is known
}

// A line is an instruction's text; where it jumps to stands behind.
type line struct {
	text  string
	label int // -1: it does not jump
}

// bits is an expression's width, where that width is asked of a free one.
func (w *writer) bits(e api.Expr, asked int) int {
	x, _ := types.Of(w.p, w.action, e)
	switch {
	case x.Truth:
		return 1
	case x.Free:
		return asked
	}
	return x.W
}

func index[T any](l []T, name func(T) string, want string) int {
	return slices.IndexFunc(l, func(x T) bool { return name(x) == want })
}

func headerName(h api.Header) string { return h.Name }
func fieldName(f api.Field) string   { return f.Name }
func nameOfState(s api.State) string { return s.Name }
func actionName(a api.Action) string { return a.Name }
func tableName(x api.Table) string   { return x.Name }

func (w *writer) head(name string) int { return index(w.p.Headers, headerName, name) }

func (w *writer) code(e api.Expr, asked int) string {
	bits := w.bits(e, asked)
	node := func(what string, a, b int) string { return what + strconv.Itoa(bits) + numbered(a, b) }
	ofAll := func(what string, asked int) string {
		s := ""
		for _, x := range e.Args {
			s += w.code(x, asked) + " "
		}
		return s + node(what, 0, 0)
	}
	common := 0
	for _, x := range e.Args {
		common = max(common, w.bits(x, 0))
	}
	switch e.Op {
	case api.ExLit:
		if e.Lit.N == num.Of(0) {
			return node("const", 0, 0)
		}
		return node("const", 0, 0) + "=" + num.Text(e.Lit.N)
	case api.ExField:
		h := w.head(e.Head)
		return node("field", h, index(w.p.Headers[h].Fields, fieldName, e.Name))
	case api.ExMeta:
		return node("meta", index(w.p.Metas, fieldName, e.Name), 0)
	case api.ExParam:
		return node("param", index(w.p.Actions[w.action].Params, fieldName, e.Name), 0)
	case api.ExPort:
		return node("port", 0, 0)
	case api.ExValid:
		return node("valid", w.head(e.Head), 0)
	case api.ExSlice:
		return w.code(e.Args[0], 0) + " " + node("slice", e.Hi, e.Lo)
	case api.ExShl, api.ExShr:
		return w.code(e.Args[0], 0) + " " + node(map[uint8]string{api.ExShl: "shl", api.ExShr: "shr"}[e.Op], int(e.Args[1].Lit.N.Lo), 0)
	case api.ExNe, api.ExGt, api.ExGe:
		return ofAll(map[uint8]string{api.ExNe: "eq", api.ExGt: "le", api.ExGe: "lt"}[e.Op], common) + " not1"
	case api.ExEq, api.ExLt, api.ExLe:
		return ofAll(map[uint8]string{api.ExEq: "eq", api.ExLt: "lt", api.ExLe: "le"}[e.Op], common)
	}
	return ofAll(map[uint8]string{
		api.ExNot: "not", api.ExNeg: "neg", api.ExBang: "not", api.ExBoth: "and", api.ExAny: "or", api.ExCat: "cat",
		api.ExAdd: "add", api.ExSub: "sub", api.ExAnd: "and", api.ExXor: "xor", api.ExOr: "or",
	}[e.Op], bits)
}

func (w *writer) line(text string) { w.lines = append(w.lines, line{text, -1}) }

func (w *writer) jump(text string, label int) { w.lines = append(w.lines, line{text, label}) }

func (w *writer) newLabel() int {
	w.labels = append(w.labels, 0)
	return len(w.labels) - 1
}

func (w *writer) here(label int) { w.labels[label] = len(w.lines) }

func (w *writer) condition(e api.Expr, turned bool, to int) {
	switch {
	case e.Op == api.ExBang:
		w.condition(e.Args[0], !turned, to)
	case e.Op == api.ExBoth && !turned || e.Op == api.ExAny && turned:
		w.condition(e.Args[0], turned, to)
		w.condition(e.Args[1], turned, to)
	case e.Op == api.ExAny || e.Op == api.ExBoth:
		behind := w.newLabel()
		w.condition(e.Args[0], !turned, behind)
		w.condition(e.Args[1], turned, to)
		w.here(behind)
	case turned:
		w.jump("if["+w.code(e, 0)+" not1]", to)
	default:
		w.jump("if["+w.code(e, 0)+"]", to)
	}
}

func (w *writer) block(l []api.Stmt) {
	for _, s := range l {
		w.stmt(s)
	}
}

func (w *writer) stmt(s api.Stmt) {
	switch s.Kind {
	case api.StSet:
		if s.Head == "" {
			n := index(w.p.Metas, fieldName, s.Name)
			w.line("meta" + numbered(n, 0) + "[" + w.code(s.E, w.p.Metas[n].W) + "]")
			return
		}
		h := w.head(s.Head)
		f := index(w.p.Headers[h].Fields, fieldName, s.Name)
		w.line("set" + numbered(h, f) + "[" + w.code(s.E, w.p.Headers[h].Fields[f].W) + "]")
	case api.StIf:
		other, end := w.newLabel(), w.newLabel()
		w.condition(s.E, false, other)
		w.block(s.Then)
		if len(s.Else) > 0 {
			w.jump("jump", end)
		}
		w.here(other)
		w.block(s.Else)
		w.here(end)
	case api.StApply:
		w.line("apply" + numbered(index(w.p.Tables, tableName, s.Name), 0))
	case api.StDrop:
		w.line("drop")
	case api.StForward:
		c, bits := w.code(s.E, 9), w.bits(s.E, 9)
		if bits < 9 {
			c = "const" + strconv.Itoa(9-bits) + " " + c + " cat9"
		} else if bits > 9 {
			c += " slice9(8,0)"
		}
		w.line("forward[" + c + "]")
	case api.StValid:
		w.line("valid" + numbered(w.head(s.Head), 1))
	case api.StInvalid:
		w.line("valid" + numbered(w.head(s.Head), 0))
	}
}

// insts is the text of what a block is lowered to.
func (w *writer) insts(action int, l []api.Stmt) string {
	w.action, w.lines, w.labels = action, nil, nil
	w.block(l)
	s := []string{}
	for _, x := range w.lines {
		if x.label >= 0 {
			x.text += ">" + strconv.Itoa(w.labels[x.label])
		}
		s = append(s, x.text)
	}
	w.action = -1
	return strings.Join(s, "; ")
}

func (w *writer) target(name string) string {
	switch name {
	case "accept":
		return ">-1"
	case "reject":
		return ">-2"
	}
	return ">" + strconv.Itoa(index(w.p.States, nameOfState, name))
}

func (w *writer) state(s api.State) string {
	l := "take"
	for _, h := range s.Takes {
		l += " " + strconv.Itoa(w.head(h))
	}
	for _, k := range s.Keys {
		l += " [" + w.code(k, 0) + "]"
	}
	for _, c := range s.Cases {
		l += " case"
		for i, k := range s.Keys {
			v, m := num.Of(0), num.Of(0)
			if !c.Default && c.Sets[i].Kind == api.SetOne {
				v, m = c.Sets[i].V.N, num.Mask(w.bits(k, 0))
			}
			if !c.Default && c.Sets[i].Kind == api.SetMask {
				v, m = num.And(c.Sets[i].V.N, c.Sets[i].M.N), c.Sets[i].M.N
			}
			l += " " + num.Text(v) + "&" + num.Text(m)
		}
		l += " " + w.target(c.To)
	}
	if len(s.Keys) > 0 {
		return l + " >0"
	}
	return l + " " + w.target(s.To)
}

func (w *writer) table(x api.Table) string {
	l, kinds, acts := "", "", ""
	for _, k := range x.Keys {
		l += "[" + w.code(k.E, 0) + "] "
		kinds += " " + strconv.Itoa(int(k.Kind))
	}
	for _, name := range x.Actions {
		acts += " " + strconv.Itoa(index(w.p.Actions, actionName, name))
	}
	l += "kinds" + kinds + " acts" + acts + " run " + strconv.Itoa(index(w.p.Actions, actionName, x.Default.Name))
	for _, a := range x.Default.Args {
		l += " " + num.Text(a.N)
	}
	return l
}

// reckonedText is toldProg of what a program is lowered to.
func reckonedText(p api.Program) string {
	w := &writer{p: p, action: -1}
	widths := func(l []api.Field) string {
		s := ""
		for _, f := range l {
			s += " " + strconv.Itoa(f.W)
		}
		return s
	}
	var l []string
	for _, h := range p.Headers {
		l = append(l, "header"+widths(h.Fields))
	}
	l = append(l, "metas"+widths(p.Metas))
	for _, s := range p.States {
		l = append(l, "step "+w.state(s))
	}
	for i, a := range p.Actions {
		l = append(l, strings.TrimRight("act"+widths(a.Params)+": "+w.insts(i, a.Body), " "))
	}
	for _, x := range p.Tables {
		l = append(l, "tab "+w.table(x))
	}
	emits := ""
	for _, name := range p.Emit {
		emits += " " + strconv.Itoa(w.head(name))
	}
	l = append(l, strings.TrimRight("control "+w.insts(-1, p.Control), " "), "emit"+emits)
	names := func(what string, l []string) string { return strings.TrimRight(what+" "+strings.Join(l, " "), " ") }
	l = append(l, names("headers", each(p.Headers, headerName)))
	for _, h := range p.Headers {
		l = append(l, names("fields", each(h.Fields, fieldName)))
	}
	l = append(l, names("metas", each(p.Metas, fieldName)), names("actions", each(p.Actions, actionName)), names("tables", each(p.Tables, tableName)))
	return strings.Join(l, "\n")
}

func each[T any](l []T, name func(T) string) []string {
	var s []string
	for _, x := range l {
		s = append(s, name(x))
	}
	return s
}

func TestP10_1OracleOfTheWhole(t *testing.T) {
	if got := reckonedText(typed(t)); got != typedLowered {
		t.Errorf("reckoned\n%s", got)
	}
	if got := reckonedText(read(t, fullest())); got != toldProg(lowered(t, read(t, fullest()))) {
		t.Errorf("reckoned\n%s", got)
	}
}
