package lower

import "quillon/api"

// A writer lays the instructions of a maker's statements, one behind the other.
type writer struct {
	maker
	l []api.Inst
}

// insts are those of a body, or of the control: jumps stay within it.
func (m maker) insts(l []api.Stmt) []api.Inst {
	w := &writer{maker: m}
	w.block(l)
	return w.l
}

func (w *writer) block(l []api.Stmt) {
	for _, s := range l {
		w.stmt(s)
	}
}

func (w *writer) stmt(s api.Stmt) {
	switch s.Kind {
	case api.StSet:
		w.add(w.set(s))
	case api.StIf:
		w.branch(s)
	case api.StApply:
		w.add(api.Inst{Kind: api.InApply, A: w.table(s.Name)})
	case api.StDrop:
		w.add(api.Inst{Kind: api.InDrop})
	case api.StForward:
		w.add(api.Inst{Kind: api.InForward, E: w.port(s.E)})
	case api.StValid:
		w.add(api.Inst{Kind: api.InValid, A: w.head(s.Head), B: 1})
	case api.StInvalid:
		w.add(api.Inst{Kind: api.InValid, A: w.head(s.Head)})
	}
}

func (w *writer) set(s api.Stmt) api.Inst {
	if s.Head == "" {
		n, bits := w.meta(s.Name)
		return api.Inst{Kind: api.InMeta, A: n, E: w.code(s.E, bits)}
	}
	h, f, bits := w.field(s.Head, s.Name)
	return api.Inst{Kind: api.InSet, A: h, B: f, E: w.code(s.E, bits)}
}

func (w *writer) branch(s api.Stmt) {
	fails := w.condition(s.E, false)
	w.block(s.Then)
	if len(s.Else) == 0 {
		fails(len(w.l))
		return
	}
	skips := w.add(api.Inst{Kind: api.InJump})
	// Behind Then and its jump: at that jump itself Else would never be run.
	fails(len(w.l))
	w.block(s.Else)
	skips(len(w.l))
}

// A patch is handed where jumps go to, once that is known.
type patch func(to int)

func (w *writer) add(x api.Inst) patch {
	at := len(w.l)
	w.l = append(w.l, x)
	return func(to int) { w.l[at].To = to }
}

// condition is gone through where the expression is so, or (turns) is not so; the patch is of where it goes else.
func (w *writer) condition(e api.Expr, turns bool) patch {
	switch e.Op {
	case api.ExBang:
		return w.condition(e.Args[0], !turns)
	case api.ExBoth, api.ExAny:
		return w.conditions(e, turns)
	}
	c := w.code(e, truthBits)
	if turns {
		c = turned(c)
	}
	return w.add(api.Inst{Kind: api.InIf, E: c})
}

func (w *writer) conditions(e api.Expr, turns bool) patch {
	a, b := e.Args[0], e.Args[1]
	// Whether both of them have to be so (turned: not so): else the first one is enough.
	if (e.Op == api.ExBoth) != turns {
		first, second := w.condition(a, turns), w.condition(b, turns)
		return func(to int) { first(to); second(to) }
	}
	enough := w.condition(a, !turns)
	fails := w.condition(b, turns)
	enough(len(w.l))
	return fails
}
