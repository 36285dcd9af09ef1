package print

import (
	"strconv"

	"quillon/api"
)

func (w *writer) program(p api.Program) {
	each(p.Headers, w.header)
	w.begin("metadata")
	block(w, p.Metas, w.field)
	w.begin("parser")
	block(w, p.States, w.state)
	each(p.Actions, w.action)
	each(p.Tables, w.table)
	w.begin("control")
	block(w, p.Control, w.stmt)
	w.begin("deparser")
	block(w, p.Emit, w.emit)
}

func (w *writer) header(h api.Header) {
	w.begin("header ", h.Name)
	block(w, h.Fields, w.field)
}

func (w *writer) field(f api.Field) {
	w.begin()
	w.param(f)
	w.put(";\n")
}

func (w *writer) param(f api.Field) { w.put("bit<", strconv.Itoa(f.W), "> ", f.Name) }

func (w *writer) state(s api.State) {
	w.begin("state ", s.Name)
	w.open()
	each(s.Takes, w.take)
	w.transition(s)
	w.shut("\n")
}

func (w *writer) take(head string) { w.line("extract(", head, ");") }

func (w *writer) transition(s api.State) {
	if s.To != "" {
		w.line("transition ", s.To, ";")
		return
	}
	w.begin("transition select(")
	row(w, s.Keys, w.expr)
	w.put(")")
	block(w, s.Cases, w.branch)
}

func (w *writer) branch(c api.Case) {
	w.begin()
	if c.Default {
		w.put("default")
	} else {
		row(w, c.Sets, w.set)
	}
	w.put(": ", c.To, ";\n")
}

func (w *writer) set(s api.Set) {
	switch s.Kind {
	case api.SetAny:
		w.put("_")
	case api.SetOne:
		w.lit(s.V)
	case api.SetMask:
		w.lit(s.V)
		w.put(" &&& ")
		w.lit(s.M)
	}
}

func (w *writer) action(a api.Action) {
	w.begin("action ", a.Name, "(")
	row(w, a.Params, w.param)
	w.put(")")
	block(w, a.Body, w.stmt)
}

func (w *writer) table(t api.Table) {
	w.begin("table ", t.Name)
	w.open()
	w.begin("key")
	block(w, t.Keys, w.key)
	w.begin("actions")
	block(w, t.Actions, w.listed)
	w.begin("default ", t.Default.Name, "(")
	row(w, t.Default.Args, w.lit)
	w.put(");\n")
	w.shut("\n")
}

func (w *writer) key(k api.Key) {
	w.begin()
	w.expr(k.E)
	w.put(": ", w.signs.keys[k.Kind].text, ";\n")
}

func (w *writer) listed(action string) { w.line(action, ";") }

func (w *writer) emit(head string) { w.line("emit(", head, ");") }
