package print

import (
	"strconv"

	"quillon/api"
	"quillon/num"
)

func (w *writer) lit(l api.Lit) {
	if l.W > 0 {
		w.put(strconv.Itoa(l.W), "w")
	}
	w.put(num.Text(l.N))
}

func (w *writer) expr(e api.Expr) {
	switch e.Op {
	case api.ExLit:
		w.lit(e.Lit)
	case api.ExField:
		w.put(e.Head, ".", e.Name)
	case api.ExMeta:
		w.put("meta.", e.Name)
	case api.ExParam:
		w.put(e.Name)
	case api.ExPort:
		w.put("port")
	case api.ExValid:
		w.put("isValid(", e.Head, ")")
	case api.ExSlice:
		w.atom(e.Args[0])
		w.put("[", strconv.Itoa(e.Hi), ":", strconv.Itoa(e.Lo), "]")
	default:
		w.signed(e)
	}
}

// signed writes a sign ahead of one, or between two.
func (w *writer) signed(e api.Expr) {
	s := w.signs.exprs[e.Op].text
	if len(e.Args) == 1 {
		w.put(s)
	} else {
		w.atom(e.Args[0])
		w.put(" ", s, " ")
	}
	w.atom(e.Args[len(e.Args)-1])
}

func (w *writer) atom(e api.Expr) {
	if len(e.Args) == 0 {
		w.expr(e)
		return
	}
	w.put("(")
	w.expr(e)
	w.put(")")
}
