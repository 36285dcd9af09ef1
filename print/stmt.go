package print

import "quillon/api"

func (w *writer) stmt(s api.Stmt) {
	switch s.Kind {
	case api.StSet:
		w.assign(s)
	case api.StIf:
		w.choice(s)
	case api.StApply:
		w.line("apply ", s.Name, ";")
	case api.StDrop:
		w.line("drop;")
	case api.StForward:
		w.begin("forward(")
		w.expr(s.E)
		w.put(");\n")
	case api.StValid:
		w.line("valid ", s.Head, ";")
	case api.StInvalid:
		w.line("invalid ", s.Head, ";")
	}
}

func (w *writer) assign(s api.Stmt) {
	head := s.Head
	if head == "" {
		head = "meta"
	}
	w.begin(head, ".", s.Name, " = ")
	w.expr(s.E)
	w.put(";\n")
}

func (w *writer) choice(s api.Stmt) {
	w.begin("if (")
	w.expr(s.E)
	w.put(")")
	w.open()
	each(s.Then, w.stmt)
	if len(s.Else) > 0 {
		w.shut(" else")
		w.open()
		each(s.Else, w.stmt)
	}
	w.shut("\n")
}
